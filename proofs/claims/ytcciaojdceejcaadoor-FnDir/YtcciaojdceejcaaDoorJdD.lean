/- The program's directories: put. The program's directories: append. The program's directories: endsEmpty. What openDirectory finds, against the model's entries (mathematics). Slots taken in whatever row: what openDirectory keeps between two rounds (mathematics). -/
import Derived.Test.YtcciaojdceejcaaDoorJdC
import Derived.Maps.Own
import Derived.StringKeys
import Derived.Maps.Views
namespace Go.Proofs.YtcciaojdceejcaaDoor
set_option linter.unusedVariables false
set_option linter.unusedSimpArgs false
open Go.RowKit

theorem own_setCell {w : World} {base : Nat} {e : TypeId} {size : Nat} {v : Value} {n : Nat} {xs : List Value} (h : w.ownsRow base e size v n xs) {g : Nat} (hg : v.ownBlock = some g) (o : Nat) (u : Value) : (w.setCell ⟨g, o, none⟩ u).ownsRow base e size v n (xs.set o u) := by
  rcases h.2 with ⟨rfl, _⟩ | ⟨g', cap, cur, rfl, hb, hc, hn, hm, hs, ht⟩
  · cases hg
  · obtain rfl : g' = g := by simpa [Value.ownBlock] using hg
    refine ⟨by simpa using h.1, .inr ⟨g', cap, cur.setIfInBounds o u, rfl, hb, heap_setCell_same w g' o cur e u hc, hn, hm, by simpa using hs, ?_⟩⟩
    rw [Array.toList_setIfInBounds, List.take_set, ht]
/-- Cells with an entry written in. -/
def putE (xs : List Value) (k : Nat) (nm : ByteArray) (ino kd : Int) : List Value := ((xs.set (k * 3) (.string nm)).set (k * 3 + 1) (.int .i64 ino)).set (k * 3 + 1 + 1) (.int .i64 kd)
theorem own_putE {w : World} {base : Nat} {v : Value} {n : Nat} {xs : List Value} {t : TypeId} (h : w.ownsRow base t 3 v n xs) {g : Nat} (hg : v.ownBlock = some g) (k : Nat) (nm : ByteArray) (ino kd : Int) : (w.setCells g (k * 3) (entC nm ino kd).toList).ownsRow base t 3 v n (putE xs k nm ino kd) :=
  own_setCell (own_setCell (own_setCell h hg _ _) hg _ _) hg _ _
theorem there_own {w : World} {base : Nat} {t : TypeId} {g n cap : Nat} {xs : List Value} (h : w.ownsRow base t 3 (.slice (some ⟨g, 0, none⟩) n cap) n xs) {k : Nat} (hk : k < n) : w.there g (k * 3) 3 := by
  rcases h.2 with ⟨e, _⟩ | ⟨g', cap', cur, e, hb, hc, hn, hm, hs, ht⟩
  · cases e
  · injection e with e1 e2 e3
    injection e1 with e1
    injection e1 with e1 e4
    subst e1
    intro j hj
    have hlt : k * 3 + j < cur.size := by rw [hs]; omega
    have hB : Blk w g cur t := hc
    refine ⟨?_, hB.frozen _⟩
    rw [hB.cell (k * 3 + j), Array.getElem?_eq_getElem hlt]
    rfl
theorem setCells_block (g : Nat) : ∀ (vs : List Value) (w : World) (o k : Nat), k ≠ g → (w.setCells g o vs).heap[k]? = w.heap[k]?
  | [], _, _, _, _ => rfl
  | v :: vs, w, o, k, h => by rw [World.setCells, setCells_block g vs _ _ k h]; exact heap_setCell_other w ⟨g, o, none⟩ k v h
theorem setCells_size (g : Nat) : ∀ (vs : List Value) (w : World) (o : Nat), (w.setCells g o vs).heap.size = w.heap.size
  | [], _, _ => rfl
  | v :: vs, w, o => by rw [World.setCells, setCells_size g vs]; simp
theorem wp_mapUpdate_ownD {H : Type} {P : Program} {o : Oper} {a : Act} {w : World} {K : Act → World → Prop} {Q : Exit → Act → World → Prop} (m x v : Operand) (t : TypeId) (hop : o.op = Op.mapUpdate t m x v)
    (k e : TypeId) (K0 : Maps.Keyed P k) (ht : P.underlying t = some (.map k e)) (R : Value → Option (DataW H × List MemPlace)) (b n : Nat) (D : DataW H)
    (hm : a.eval m = .map (some b)) (hown : w.ownsMap P k R b n D) (hn : n < maxLen) (key val : Value) (kl : Lit) (hx : a.eval x = key) (hv : a.eval v = val) (hkey : keyOf P k key = some kl)
    (d : DataW H) (ps : List MemPlace) (hval : R val = some (d, ps))
    (hK : ∀ w', w'.ownsMap P k R b (n + 1) (D.put kl d) → w.grownBy w' (some b) → K (a.put o.dst undef) w') : o.wp P a w K Q := by
  obtain ⟨w', hrun, r1, r2⟩ := hown.update K0 ht hn hkey hval
  unfold Oper.wp
  simp [execOp, hop, hm, hx, hv, hrun, Result.andThen]
  exact hK w' r1 r2
set_option maxRecDepth 100000 in
set_option maxHeartbeats 1000000 in
theorem dput_any {H : Type} (w : World) (b mb g cap n nn base : Nat) (xs : List Value) (D : DataW H) (slot : Nat) (nm : ByteArray) (ino kd : Int) (hs : slot < n) (hn : n ≤ 100000)
    (c0 : w.cell? ⟨b, 0, none⟩ = some (.slice (some ⟨g, 0, none⟩) n cap)) (c1 : w.cell? ⟨b, 1, none⟩ = some (.map (some mb)))
    (ho : w.ownsRow base 34 3 (.slice (some ⟨g, 0, none⟩) n cap) n xs) (hm : w.ownsMap Tryd.prog 9 (plainElem (H := H) Tryd.prog 3) mb nn D) (hnn : nn < maxLen) (hnm : nm.size ≤ maxLen) (hbg : b ≠ g) (hbm : b ≠ mb) (hgm : g ≠ mb) :
    Calls Tryd.prog 63 #[.pointer (some ⟨b, 0, none⟩), .int .i64 slot, .agg (entC nm ino kd)] w fun e w' => e = .returned (.tuple #[]) ∧ w'.ownsRow base 34 3 (.slice (some ⟨g, 0, none⟩) n cap) n (putE xs slot nm ino kd) ∧
      w'.ownsMap Tryd.prog 9 (plainElem (H := H) Tryd.prog 3) mb (nn + 1) (D.put (.string nm.data.toList) (.lit (.int .i64 slot))) ∧ (∀ k, k < w.heap.size → k ≠ g → k ≠ mb → w'.heap[k]? = w.heap[k]?) ∧ (∀ B, B ≤ g → B ≤ mb → B ≤ w.heap.size → Below B w w') := by
  have hbl : b < w.heap.size := cell_lt c0
  have hgl : g < w.heap.size := (ho.lt g rfl).2
  have hml : mb < w.heap.size := hm.lt
  have K0 := hide (Blk.new w (entC nm ino kd) 34)
  have H0 := hide (show (w.alloc (.cells (entC nm ino kd) 34)).cell? ⟨b, 0, none⟩ = some (.slice (some ⟨g, 0, none⟩) n cap) ∧ (w.alloc (.cells (entC nm ino kd) 34)).cell? ⟨b, 1, none⟩ = some (.map (some mb)) from ⟨by rw [World.cell?_alloc_lt _ _ _ hbl]; exact c0, by rw [World.cell?_alloc_lt _ _ _ hbl]; exact c1⟩)
  have HO := hide (ho.alloc (.cells (entC nm ino kd) 34))
  have HM := hide (hm.alloc (.cells (entC nm ino kd) 34))
  have HB := hide (show Below w.heap.size w (w.alloc (.cells (entC nm ino kd) 34)) from (Below.refl _ _).alloc (Nat.le_refl _) _)
  have HWf := hide (show (Lit.int .i64 (slot : Int)).wf = true from by simp [Lit.wf, IntKind.min, IntKind.max, IntKind.signed, IntKind.bits]; omega)
  clear c0 c1 ho hm
  go_enter Tryd.func63, Tryd.ntmps63
  go_wp2_with fail
  obtain ⟨W, hW⟩ : ∃ W, W = w.alloc (.cells (entC nm ino kd) 34) := ⟨_, rfl⟩
  have hsW : W.heap.size = w.heap.size + 1 := by rw [hW]; simp
  rw [← hW] at K0 H0 HO HM HB ⊢
  clear hW
  refine wp_region_noPanic ?_
  refine wp_region_held_drew (S := fun w' => w'.cell? ⟨b, 0, none⟩ = some (.slice (some ⟨g, 0, none⟩) n cap) ∧ Blk w' w.heap.size (entC nm ino kd) 34) (by kernel_rfl) ⟨H0.out.1, K0.out⟩ (fun hH => ?_)
  refine wpAnyH_take (i := 0) (oi := _) (v := (.pointer (some ⟨b, 0, none⟩))) rfl (by kernel_rfl) (by kernel_rfl) (by kernel_rfl) (fun _ _ _ h => h) (Or.inl ⟨by rfl, fun w' hw' => by go_simp⟩) hH ?_
  try simp only [Act.put, List.getElem_toArray, List.getElem_cons_zero, List.getElem_cons_succ, List.setIfInBounds_toArray, List.set_cons_zero, List.set_cons_succ]
  refine wpAnyH_take (i := 1) (oi := _) (v := (.pointer (some ⟨b, 0, none⟩))) rfl (by kernel_rfl) (by kernel_rfl) (by kernel_rfl) (fun _ _ _ h => h) (Or.inl ⟨by rfl, fun w' hw' => by go_simp⟩) hH ?_
  try simp only [Act.put, List.getElem_toArray, List.getElem_cons_zero, List.getElem_cons_succ, List.setIfInBounds_toArray, List.set_cons_zero, List.set_cons_succ]
  refine wpAnyH_take (i := 2) (oi := _) (v := (.pointer (some ⟨b, 0, none⟩))) rfl (by kernel_rfl) (by kernel_rfl) (by kernel_rfl) (fun _ _ _ h => h) (Or.inl ⟨by rfl, fun w' hw' => by go_simp⟩) hH ?_
  try simp only [Act.put, List.getElem_toArray, List.getElem_cons_zero, List.getElem_cons_succ, List.setIfInBounds_toArray, List.set_cons_zero, List.set_cons_succ]
  refine wpAnyH_take (i := 3) (oi := _) (v := (.slice (some ⟨g, 0, none⟩) n cap)) rfl (by kernel_rfl) (by kernel_rfl) (by kernel_rfl) (fun _ _ _ h => h) (Or.inl ⟨by rfl, fun w' hw' => by have hc := hw'.1; clear hw'; go_simp⟩) hH ?_
  try simp only [Act.put, List.getElem_toArray, List.getElem_cons_zero, List.getElem_cons_succ, List.setIfInBounds_toArray, List.set_cons_zero, List.set_cons_succ]
  refine wpAnyH_take (i := 4) (oi := _) (v := (.int .i64 (slot : Int))) rfl (by kernel_rfl) (by kernel_rfl) (by kernel_rfl) (fun _ _ _ h => h) (Or.inl ⟨by rfl, fun w' hw' => by go_simp⟩) hH ?_
  try simp only [Act.put, List.getElem_toArray, List.getElem_cons_zero, List.getElem_cons_succ, List.setIfInBounds_toArray, List.set_cons_zero, List.set_cons_succ]
  refine wpAnyH_take (i := 5) (oi := _) (v := (.agg (entC nm ino kd))) rfl (by kernel_rfl) (by kernel_rfl) (by kernel_rfl) (fun _ _ _ h => h) (yieldsIf_load_mid (by rfl) 34 _ rfl w.heap.size 0 rfl (entC nm ino kd).toList _ (fun w' h => ent_range h.2) Tryd.underlying34 rfl infoD3) hH ?_
  try simp only [Act.put, List.getElem_toArray, List.getElem_cons_zero, List.getElem_cons_succ, List.setIfInBounds_toArray, List.set_cons_zero, List.set_cons_succ]
  refine wpAnyH_take (i := 6) (oi := _) (v := (.pointer (some ⟨g, slot * 3, none⟩))) rfl (by kernel_rfl) (by kernel_rfl) (by kernel_rfl) (fun _ _ _ h => h) (Or.inl ⟨by rfl, fun w' hw' => by go_simp⟩) hH ?_
  try simp only [Act.put, List.getElem_toArray, List.getElem_cons_zero, List.getElem_cons_succ, List.setIfInBounds_toArray, List.set_cons_zero, List.set_cons_succ]
  refine wpAnyH_ready (rs := [7]) (by kernel_rfl) (by simp) ?_
  refine AllReadyH.cons (o := _) rfl (fun K hK => ?_) AllReadyH.nil
  rw [if_pos (by rfl)]
  refine wp_store_mid 34 _ _ rfl g (slot * 3) (entC nm ino kd) rfl rfl (there_own (w := World.drew W) HO.out hs) infoD3 entC_one ?_
  refine hK.out _ _ ⟨(World.cell?_of_block (a := ⟨b, 0, none⟩) (setCells_block g _ _ _ b hbg)).trans hH.1, (setCells_block g _ _ _ w.heap.size (by omega)).trans hH.2⟩ (fun hH9 => ?_)
  clear hK K
  try simp only [Act.put, List.getElem_toArray, List.getElem_cons_zero, List.getElem_cons_succ, List.setIfInBounds_toArray, List.set_cons_zero, List.set_cons_succ]
  obtain ⟨w2, hw2⟩ : ∃ w2, w2 = (World.drew W).setCells g (slot * 3) (entC nm ino kd).toList := ⟨_, rfl⟩
  have hblk : ∀ k, k ≠ g → w2.heap[k]? = W.heap[k]? := fun k hk => by rw [hw2]; exact setCells_block g _ _ _ k hk
  have HO2 := hide (show w2.ownsRow base 34 3 (.slice (some ⟨g, 0, none⟩) n cap) n (putE xs slot nm ino kd) from by rw [hw2]; exact own_putE (w := World.drew W) HO.out rfl slot nm ino kd)
  have HB2 := hide (show ∀ B, B ≤ g → B ≤ w.heap.size → Below B w w2 from fun B h1 h2 => by
    rw [hw2]
    exact below_cells h1 _ _ ((HB.out.mono h2).drew))
  have H2 := hide (show w2.cell? ⟨b, 1, none⟩ = some (.map (some mb)) ∧ w2.cell? ⟨w.heap.size, 0, none⟩ = some (.string nm) from ⟨(World.cell?_of_block (a := ⟨b, 1, none⟩) (hblk b hbg)).trans H0.out.2, (World.cell?_of_block (a := ⟨w.heap.size, 0, none⟩) (hblk w.heap.size (by omega))).trans ((K0.out.cell 0).trans rfl)⟩)
  have HM2 := hide (show w2.ownsMap Tryd.prog 9 (plainElem (H := H) Tryd.prog 3) mb nn D from by
    obtain ⟨es, ck, h1, h2⟩ := HM.out
    exact ⟨es, ck, (hblk mb (fun e => hgm e.symm)).trans h1, h2⟩)
  have HBk := hide hblk
  have HSz := hide (show W.heap.size ≤ w2.heap.size from by rw [hw2, setCells_size]; exact Nat.le_refl _)
  rw [← hw2]
  refine wpAnyH_done (by kernel_rfl) (NoPanic.normal ?_) _
  clear hH hH9 hw2 hblk
  go_wp2_with fail
  refine wp_region_noPanic ?_
  refine wp_region_held_drew (S := fun w' => w'.cell? ⟨b, 1, none⟩ = some (.map (some mb)) ∧ w'.cell? ⟨w.heap.size, 0, none⟩ = some (.string nm)) (by kernel_rfl) ⟨H2.out.1, H2.out.2⟩ (fun hH => ?_)
  refine wpAnyH_take (i := 0) (oi := _) (v := (.pointer (some ⟨b, 0, none⟩))) rfl (by kernel_rfl) (by kernel_rfl) (by kernel_rfl) (fun _ _ _ h => h) (Or.inl ⟨by rfl, fun w' hw' => by go_simp⟩) hH ?_
  try simp only [Act.put, List.getElem_toArray, List.getElem_cons_zero, List.getElem_cons_succ, List.setIfInBounds_toArray, List.set_cons_zero, List.set_cons_succ]
  refine wpAnyH_take (i := 1) (oi := _) (v := (.pointer (some ⟨b, 0, none⟩))) rfl (by kernel_rfl) (by kernel_rfl) (by kernel_rfl) (fun _ _ _ h => h) (Or.inl ⟨by rfl, fun w' hw' => by go_simp⟩) hH ?_
  try simp only [Act.put, List.getElem_toArray, List.getElem_cons_zero, List.getElem_cons_succ, List.setIfInBounds_toArray, List.set_cons_zero, List.set_cons_succ]
  refine wpAnyH_take (i := 2) (oi := _) (v := (.pointer (some ⟨b, 1, none⟩))) rfl (by kernel_rfl) (by kernel_rfl) (by kernel_rfl) (fun _ _ _ h => h) (Or.inl ⟨by rfl, fun w' hw' => by go_simp⟩) hH ?_
  try simp only [Act.put, List.getElem_toArray, List.getElem_cons_zero, List.getElem_cons_succ, List.setIfInBounds_toArray, List.set_cons_zero, List.set_cons_succ]
  refine wpAnyH_take (i := 3) (oi := _) (v := (.map (some mb))) rfl (by kernel_rfl) (by kernel_rfl) (by kernel_rfl) (fun _ _ _ h => h) (Or.inl ⟨by rfl, fun w' hw' => by have hc := hw'.1; clear hw'; go_simp⟩) hH ?_
  try simp only [Act.put, List.getElem_toArray, List.getElem_cons_zero, List.getElem_cons_succ, List.setIfInBounds_toArray, List.set_cons_zero, List.set_cons_succ]
  refine wpAnyH_take (i := 4) (oi := _) (v := (.pointer (some ⟨w.heap.size, 0, none⟩))) rfl (by kernel_rfl) (by kernel_rfl) (by kernel_rfl) (fun _ _ _ h => h) (Or.inl ⟨by rfl, fun w' hw' => by go_simp⟩) hH ?_
  try simp only [Act.put, List.getElem_toArray, List.getElem_cons_zero, List.getElem_cons_succ, List.setIfInBounds_toArray, List.set_cons_zero, List.set_cons_succ]
  refine wpAnyH_take (i := 5) (oi := _) (v := (.string nm)) rfl (by kernel_rfl) (by kernel_rfl) (by kernel_rfl) (fun _ _ _ h => h) (Or.inl ⟨by rfl, fun w' hw' => by have hc := hw'.2; clear hw'; go_simp⟩) hH ?_
  try simp only [Act.put, List.getElem_toArray, List.getElem_cons_zero, List.getElem_cons_succ, List.setIfInBounds_toArray, List.set_cons_zero, List.set_cons_succ]
  refine wpAnyH_take (i := 6) (oi := _) (v := (.int .i64 (slot : Int))) rfl (by kernel_rfl) (by kernel_rfl) (by kernel_rfl) (fun _ _ _ h => h) (Or.inl ⟨by rfl, fun w' hw' => by go_simp⟩) hH ?_
  try simp only [Act.put, List.getElem_toArray, List.getElem_cons_zero, List.getElem_cons_succ, List.setIfInBounds_toArray, List.set_cons_zero, List.set_cons_succ]
  refine wpAnyH_ready (rs := [7]) (by kernel_rfl) (by simp) ?_
  refine AllReadyH.cons (o := _) rfl (fun K hK => ?_) AllReadyH.nil
  rw [if_pos (by rfl)]
  refine wp_mapUpdate_ownD (H := H) _ _ _ _ rfl 9 3 (Maps.string_keyed Tryd.underlying9) Tryd.underlying66 _ mb nn D rfl (HM2.out.drew) hnn (.string nm) (.int .i64 slot) (.string nm.data.toList) rfl rfl (WideMaps.keyOf_string_mk Tryd.underlying9 hnm) (.lit (.int .i64 slot)) [] (plainElem_int Tryd.underlying3 HWf.out) ?_
  intro w3 om3 g3
  have HS3 := hide (show w2.heap.size ≤ w3.heap.size from g3.size)
  have H3 := hide (show ∀ k, k < w2.heap.size → k ≠ mb → w3.heap[k]? = w2.heap[k]? from fun k h1 h2 => g3.block k h1 (by simpa using fun e => h2 e))
  have HM3 := hide om3
  have HG3 := hide g3
  have hs2 : W.heap.size ≤ w2.heap.size := HSz.out
  clear om3 g3
  refine hK.out _ _ ⟨(World.cell?_of_block (a := ⟨b, 1, none⟩) (H3.out b (by omega) hbm)).trans hH.1, (World.cell?_of_block (a := ⟨w.heap.size, 0, none⟩) (H3.out w.heap.size (by omega) (by omega))).trans hH.2⟩ (fun hH9 => ?_)
  clear hK K
  try simp only [Act.put, List.getElem_toArray, List.getElem_cons_zero, List.getElem_cons_succ, List.setIfInBounds_toArray, List.set_cons_zero, List.set_cons_succ]
  refine wpAnyH_done (by kernel_rfl) (NoPanic.normal ?_) _
  clear hH hH9
  go_wp2
  go_end0
  refine ⟨rfl, ?_, HM3.out, fun k h1 h2 h3 => ?_, fun B h1 h2 h3 => ?_⟩
  · obtain ⟨l1, l2⟩ := HO2.out
    refine ⟨l1, l2.imp (fun h => h) (fun ⟨g', cp', cur, e, r1, r2, r3⟩ => ⟨g', cp', cur, e, r1, (H3.out g' ?_ ?_).trans r2, r3⟩)⟩
    · exact (Array.getElem?_eq_some_iff.1 r2).1
    · injection e with e1 _ _
      injection e1 with e1
      injection e1 with e1 _
      rw [← e1]
      exact hgm
  · rw [H3.out k (by omega) h3, HBk.out k h2]
    exact HB.out.block k h1
  · exact ((HB2.out B h1 h3).drew).grown HG3.out (show B ≤ w2.heap.size by omega) (fun k e => by cases e; exact h2)
end Go.Proofs.YtcciaojdceejcaaDoor

namespace Go.Proofs.YtcciaojdceejcaaDoor
set_option linter.unusedVariables false
set_option linter.unusedSimpArgs false
open Go.RowKit

/-- A directory in the midst of an operation: its entries' cells, its map. -/
structure Dr {H : Type} (base : Nat) (W : World) (b mb n nn : Nat) (v : Value) (xs : List Value) (D : DataW H) : Prop where
  blk : Blk W b #[v, .map (some mb)] 68
  own : W.ownsRow base 34 3 v n xs
  ne : v.ownBlock ≠ some b
  map : W.ownsMap Tryd.prog 9 (plainElem (H := H) Tryd.prog 3) mb nn D
  nb : b ≠ mb
theorem Dr.nm {H : Type} {base : Nat} {W : World} {b mb n nn : Nat} {v : Value} {xs : List Value} {D : DataW H} (h : Dr base W b mb n nn v xs D) : v.ownBlock ≠ some mb := by
  intro e
  rcases h.own.2 with ⟨rfl, _⟩ | ⟨g, cap, cur, rfl, _, hg, _⟩
  · cases e
  · obtain rfl : g = mb := by simpa [Value.ownBlock] using e
    obtain ⟨es, ck, hb, _⟩ := h.map
    rw [hg] at hb
    cases hb
theorem mapSet {H : Type} {P : Program} {w : World} {t : TypeId} {R : Value → Option (DataW H × List MemPlace)} {mb nn b : Nat} {D : DataW H} (h : w.ownsMap P t R mb nn D) (u : Value) (hne : mb ≠ b) : (w.setCell ⟨b, 0, none⟩ u).ownsMap P t R mb nn D := by
  obtain ⟨es, ck, h1, h2⟩ := h
  exact ⟨es, ck, (heap_setCell_other w ⟨b, 0, none⟩ mb u hne).trans h1, h2⟩
/-- What else is as it was. -/
structure Fr (w w' : World) (b mb : Nat) (v v' : Value) : Prop where
  kept : ∀ k, k < w.heap.size → k ≠ b → k ≠ mb → v.ownBlock ≠ some k → w'.heap[k]? = w.heap[k]?
  fresh : ∀ k, v'.ownBlock = some k → v.ownBlock = some k ∨ w.heap.size ≤ k
  low : Below 0 w w'
set_option maxRecDepth 100000 in
set_option maxHeartbeats 2000000 in
theorem dappend_any {H : Type} (base : Nat) (w : World) (b mb n nn : Nat) (v : Value) (xs : List Value) (D : DataW H) (nm : ByteArray) (ino kd : Int) (h : Dr base w b mb n nn v xs D) (hb : base ≤ w.heap.size) (hn : n ≤ 8192) (hnn : nn < maxLen) (hnm : nm.size ≤ maxLen) :
    Calls Tryd.prog 58 #[.pointer (some ⟨b, 0, none⟩), .agg (entC nm ino kd)] w fun e w' => e = .returned (.tuple #[]) ∧ ∃ v',
      (entEq nm ino kd ⟨#[]⟩ 0 0 = true → Dr base w' b mb (n + 1) nn v' (xs ++ [.string ⟨#[]⟩, .int .i64 0, .int .i64 0]) D) ∧ (entEq nm ino kd ⟨#[]⟩ 0 0 = false → Dr base w' b mb (n + 1) (nn + 1) v' (putE (xs ++ [.string ⟨#[]⟩, .int .i64 0, .int .i64 0]) n nm ino kd) (D.put (.string nm.data.toList) (.lit (.int .i64 n)))) ∧ Fr w w' b mb v v' := by
  have hbl : b < w.heap.size := h.blk.lt
  obtain ⟨i0, hi, hz0, hz1, hz2⟩ := info_parts infoD
  have c0 : (w.alloc (.cells (entC nm ino kd) 34)).cell? ⟨b, 0, none⟩ = some v := by rw [World.cell?_alloc_lt _ _ _ hbl]; exact (h.blk.cell 0).trans rfl
  obtain ⟨la, lc, rfl⟩ := ownD_shape h.own
  have HD := hide h
  have HB2 := hide ((h.blk.alloc (.cells (entC nm ino kd) 34)).alloc (.cells #[.string ⟨#[]⟩, .int .i64 0, .int .i64 0] 34))
  have HK2 := hide ((Blk.new w (entC nm ino kd) 34).alloc (.cells #[.string ⟨#[]⟩, .int .i64 0, .int .i64 0] 34))
  have HCn := hide (show ∀ j u, ([.string ⟨#[]⟩, .int .i64 0, .int .i64 0] : List Value)[j]? = some u → ((w.alloc (.cells (entC nm ino kd) 34)).alloc (.cells #[.string ⟨#[]⟩, .int .i64 0, .int .i64 0] 34)).cell? ((⟨w.heap.size + 1, 0, none⟩ : Addr).add j) = some u from by
    have h := cells_newD (w.alloc (.cells (entC nm ino kd) 34)) #[.string ⟨#[]⟩, .int .i64 0, .int .i64 0] 34
    rw [World.size_alloc] at h
    exact h)
  have HM2 := hide ((h.map.alloc (.cells (entC nm ino kd) 34)).alloc (.cells #[.string ⟨#[]⟩, .int .i64 0, .int .i64 0] 34))
  have hml : mb < w.heap.size := h.map.lt
  clear h
  have HE := hide (fun w => eqEnt w 9998 nm ino kd ⟨#[]⟩ 0 0)
  go_enter Tryd.func58, Tryd.ntmps58
  cases hz : entEq nm ino kd ⟨#[]⟩ 0 0 with
  | true =>
    have HE2 := hide (fun w => (HE.out w).trans (by rw [hz]))
    go_wp2_with (first | (at_builtin; refine append_fresh _ rfl (.tmp 8) (.tmp 10) 29 rfl base 34 i0 (.agg #[.string ⟨#[]⟩, .int .i64 0, .int .i64 0]) 3 32 Tryd.underlying29 hi hz0 hz1 hz2 rfl (by decide) _ _ _ rfl ((HD.out.own.alloc _).alloc _) ⟨w.heap.size + 1, 0, none⟩ 1 1 [.string ⟨#[]⟩, .int .i64 0, .int .i64 0] rfl rfl HCn.out (by intro u hu; simp at hu; rcases hu with rfl | rfl <;> rfl) (by omega) (by unfold maxLen; omega) (by omega) (by simp; omega) ?_; intro v7 w7 o7 g7 f7; obtain ⟨ga, ca, rfl, hga1, hga2, hga3⟩ := own_sliceD o7 (by omega); clear hga3; have K7 := hide (show Blk w7 b #[.slice la n lc, .map (some mb)] 68 from (g7.block b (by simp; omega) (fun e => HD.out.ne e.symm)).trans HB2.out); have c7 := (K7.out.cell 0).trans (show (#[.slice la n lc, .map (some mb)] : Array Value)[0]? = some (.slice la n lc) from rfl); have fz7 := K7.out.frozen 0; have E7 := hide (show Blk w7 w.heap.size (entC nm ino kd) 34 from (g7.block w.heap.size (by simp; omega) (fun e => by have := (HD.out.own.lt _ e.symm).2; omega)).trans HK2.out); have KE := hide (E7.out.other ⟨b, 0, none⟩ (.slice (some ⟨ga, 0, none⟩) (n + 1) ca) (by show w.heap.size ≠ b; omega)); have O7 := hide o7; have G7 := hide g7; have F7 := hide f7; clear o7 g7 f7) | (refine wpList_load_row rfl 34 _ rfl w.heap.size rfl 34 (entC nm ino kd) (0, 0) _ KE.out Tryd.underlying34 rfl infoD3 ?_) | (refine wpList_neqE rfl 34 _ _ _ rfl (entC nm ino kd) (entC ⟨#[]⟩ 0 0) rfl rfl guardEnt true (HE2.out _) ?_))
    have hgab : ga ≠ b := fun e => by
      rcases F7.out ga rfl with h | h
      · exact HD.out.ne (by rw [← e]; exact h)
      · simp at h; omega
    have hgaw : ga ≠ w.heap.size := fun e => by
      rcases F7.out ga rfl with h | h
      · have := (HD.out.own.lt ga h).2; omega
      · simp at h; omega
    have H8 := hide (show Dr base (w7.setCell ⟨b, 0, none⟩ (.slice (some ⟨ga, 0, none⟩) (n + 1) ca)) b mb (n + 1) nn (.slice (some ⟨ga, 0, none⟩) (n + 1) ca) (xs ++ [.string ⟨#[]⟩, .int .i64 0, .int .i64 0]) D ∧ Fr w (w7.setCell ⟨b, 0, none⟩ (.slice (some ⟨ga, 0, none⟩) (n + 1) ca)) b mb (.slice la n lc) (.slice (some ⟨ga, 0, none⟩) (n + 1) ca) from by
      refine ⟨⟨K7.out.set 0 _, ownsRow_setCell_other O7.out (by simpa [Value.ownBlock] using hgab) _, by simpa [Value.ownBlock] using hgab, mapSet (HM2.out.kept G7.out (fun e => HD.out.nm e.symm)) _ (fun e => HD.out.nb e.symm), HD.out.nb⟩, ⟨fun k h1 h2 h3 h4 => ?_, fun k hk => ?_, ?_⟩⟩
      · rw [heap_setCell_other w7 ⟨b, 0, none⟩ k _ h2, G7.out.block k (by simp; omega) (fun e => h4 e.symm), Below.heap_alloc _ _ k (by simp; omega), Below.heap_alloc _ _ k h1]
      · rcases F7.out k hk with h | h
        · exact .inl h
        · simp at h; exact .inr (by omega)
      · exact ((((Below.refl 0 w).alloc (Nat.zero_le _) _).alloc (Nat.zero_le _) _).grown G7.out (Nat.zero_le _) (fun _ _ => Nat.zero_le _)).setCell (p := ⟨b, 0, none⟩) (Nat.zero_le _) _)
    go_end0
    exact ⟨rfl, _, H8.out.1, H8.out.2⟩
  | false =>
    have HE2 := hide (fun w => (HE.out w).trans (by rw [hz]))
    go_wp2_with (first | (at_builtin; refine append_fresh _ rfl (.tmp 8) (.tmp 10) 29 rfl base 34 i0 (.agg #[.string ⟨#[]⟩, .int .i64 0, .int .i64 0]) 3 32 Tryd.underlying29 hi hz0 hz1 hz2 rfl (by decide) _ _ _ rfl ((HD.out.own.alloc _).alloc _) ⟨w.heap.size + 1, 0, none⟩ 1 1 [.string ⟨#[]⟩, .int .i64 0, .int .i64 0] rfl rfl HCn.out (by intro u hu; simp at hu; rcases hu with rfl | rfl <;> rfl) (by omega) (by unfold maxLen; omega) (by omega) (by simp; omega) ?_; intro v7 w7 o7 g7 f7; obtain ⟨ga, ca, rfl, hga1, hga2, hga3⟩ := own_sliceD o7 (by omega); clear hga3; have K7 := hide (show Blk w7 b #[.slice la n lc, .map (some mb)] 68 from (g7.block b (by simp; omega) (fun e => HD.out.ne e.symm)).trans HB2.out); have c7 := (K7.out.cell 0).trans (show (#[.slice la n lc, .map (some mb)] : Array Value)[0]? = some (.slice la n lc) from rfl); have fz7 := K7.out.frozen 0; have E7 := hide (show Blk w7 w.heap.size (entC nm ino kd) 34 from (g7.block w.heap.size (by simp; omega) (fun e => by have := (HD.out.own.lt _ e.symm).2; omega)).trans HK2.out); have KE := hide (E7.out.other ⟨b, 0, none⟩ (.slice (some ⟨ga, 0, none⟩) (n + 1) ca) (by show w.heap.size ≠ b; omega)); have O7 := hide o7; have G7 := hide g7; have F7 := hide f7; clear o7 g7 f7) | (refine wpList_load_row rfl 34 _ rfl w.heap.size rfl 34 (entC nm ino kd) (0, 0) _ KE.out Tryd.underlying34 rfl infoD3 ?_) | (refine wpList_neqE rfl 34 _ _ _ rfl (entC nm ino kd) (entC ⟨#[]⟩ 0 0) rfl rfl guardEnt false (HE2.out _) ?_))
    have hgab : ga ≠ b := fun e => by
      rcases F7.out ga rfl with h | h
      · exact HD.out.ne (by rw [← e]; exact h)
      · simp at h; omega
    have hgaw : ga ≠ w.heap.size := fun e => by
      rcases F7.out ga rfl with h | h
      · have := (HD.out.own.lt ga h).2; omega
      · simp at h; omega
    have H8 := hide (show Dr base (w7.setCell ⟨b, 0, none⟩ (.slice (some ⟨ga, 0, none⟩) (n + 1) ca)) b mb (n + 1) nn (.slice (some ⟨ga, 0, none⟩) (n + 1) ca) (xs ++ [.string ⟨#[]⟩, .int .i64 0, .int .i64 0]) D ∧ Fr w (w7.setCell ⟨b, 0, none⟩ (.slice (some ⟨ga, 0, none⟩) (n + 1) ca)) b mb (.slice la n lc) (.slice (some ⟨ga, 0, none⟩) (n + 1) ca) from by
      refine ⟨⟨K7.out.set 0 _, ownsRow_setCell_other O7.out (by simpa [Value.ownBlock] using hgab) _, by simpa [Value.ownBlock] using hgab, mapSet (HM2.out.kept G7.out (fun e => HD.out.nm e.symm)) _ (fun e => HD.out.nb e.symm), HD.out.nb⟩, ⟨fun k h1 h2 h3 h4 => ?_, fun k hk => ?_, ?_⟩⟩
      · rw [heap_setCell_other w7 ⟨b, 0, none⟩ k _ h2, G7.out.block k (by simp; omega) (fun e => h4 e.symm), Below.heap_alloc _ _ k (by simp; omega), Below.heap_alloc _ _ k h1]
      · rcases F7.out k hk with h | h
        · exact .inl h
        · simp at h; exact .inr (by omega)
      · exact ((((Below.refl 0 w).alloc (Nat.zero_le _) _).alloc (Nat.zero_le _) _).grown G7.out (Nat.zero_le _) (fun _ _ => Nat.zero_le _)).setCell (p := ⟨b, 0, none⟩) (Nat.zero_le _) _)
    obtain ⟨w8, hw8⟩ : ∃ w8, w8 = w7.setCell ⟨b, 0, none⟩ (.slice (some ⟨ga, 0, none⟩) (n + 1) ca) := ⟨_, rfl⟩
    rw [← hw8] at H8 KE ⊢
    have hgal : ga < w8.heap.size := (H8.out.1.own.lt ga rfl).2
    clear hw8 O7 G7 F7 K7 E7 c7 fz7 hga2
    try simp only [Act.put, List.setIfInBounds_toArray, List.set_cons_zero, List.set_cons_succ, Bool.not_true, Bool.not_false]
    refine wp_region_noPanic ?_
    refine wp_region_held_drew (S := fun w' => w'.cell? ⟨b, 0, none⟩ = some (.slice (some ⟨ga, 0, none⟩) (n + 1) ca) ∧ Blk w' w.heap.size (entC nm ino kd) 34) (by kernel_rfl) ⟨(H8.out.1.blk.cell 0).trans rfl, KE.out⟩ (fun hH => ?_)
    refine wpAnyH_take (i := 0) (oi := _) (v := (.pointer (some ⟨b, 0, none⟩))) rfl (by kernel_rfl) (by kernel_rfl) (by kernel_rfl) (fun _ _ _ h => h) (Or.inl ⟨by rfl, fun w' hw' => by go_simp⟩) hH ?_
    try simp only [Act.put, List.getElem_toArray, List.getElem_cons_zero, List.getElem_cons_succ, List.setIfInBounds_toArray, List.set_cons_zero, List.set_cons_succ]
    refine wpAnyH_take (i := 1) (oi := _) (v := (.pointer (some ⟨b, 0, none⟩))) rfl (by kernel_rfl) (by kernel_rfl) (by kernel_rfl) (fun _ _ _ h => h) (Or.inl ⟨by rfl, fun w' hw' => by go_simp⟩) hH ?_
    try simp only [Act.put, List.getElem_toArray, List.getElem_cons_zero, List.getElem_cons_succ, List.setIfInBounds_toArray, List.set_cons_zero, List.set_cons_succ]
    refine wpAnyH_take (i := 2) (oi := _) (v := (.pointer (some ⟨b, 0, none⟩))) rfl (by kernel_rfl) (by kernel_rfl) (by kernel_rfl) (fun _ _ _ h => h) (Or.inl ⟨by rfl, fun w' hw' => by go_simp⟩) hH ?_
    try simp only [Act.put, List.getElem_toArray, List.getElem_cons_zero, List.getElem_cons_succ, List.setIfInBounds_toArray, List.set_cons_zero, List.set_cons_succ]
    refine wpAnyH_take (i := 3) (oi := _) (v := (.pointer (some ⟨b, 0, none⟩))) rfl (by kernel_rfl) (by kernel_rfl) (by kernel_rfl) (fun _ _ _ h => h) (Or.inl ⟨by rfl, fun w' hw' => by go_simp⟩) hH ?_
    try simp only [Act.put, List.getElem_toArray, List.getElem_cons_zero, List.getElem_cons_succ, List.setIfInBounds_toArray, List.set_cons_zero, List.set_cons_succ]
    refine wpAnyH_take (i := 4) (oi := _) (v := (.slice (some ⟨ga, 0, none⟩) (n + 1) ca)) rfl (by kernel_rfl) (by kernel_rfl) (by kernel_rfl) (fun _ _ _ h => h) (Or.inl ⟨by rfl, fun w' hw' => by have hc := hw'.1; clear hw'; go_simp⟩) hH ?_
    try simp only [Act.put, List.getElem_toArray, List.getElem_cons_zero, List.getElem_cons_succ, List.setIfInBounds_toArray, List.set_cons_zero, List.set_cons_succ]
    refine wpAnyH_take (i := 5) (oi := _) (v := (.int .i64 ((n : Int) + 1))) rfl (by kernel_rfl) (by kernel_rfl) (by kernel_rfl) (fun _ _ _ h => h) (Or.inl ⟨by rfl, fun w' hw' => by go_simp⟩) hH ?_
    try simp only [Act.put, List.getElem_toArray, List.getElem_cons_zero, List.getElem_cons_succ, List.setIfInBounds_toArray, List.set_cons_zero, List.set_cons_succ]
    refine wpAnyH_take (i := 6) (oi := _) (v := (.int .i64 (n : Int))) rfl (by kernel_rfl) (by kernel_rfl) (by kernel_rfl) (fun _ _ _ h => h) (Or.inl ⟨by rfl, fun w' hw' => by go_simp; rw [IntWalk.i64_left, IntWalk.wrap64_in _ (by omega)]⟩) hH ?_
    try simp only [Act.put, List.getElem_toArray, List.getElem_cons_zero, List.getElem_cons_succ, List.setIfInBounds_toArray, List.set_cons_zero, List.set_cons_succ]
    refine wpAnyH_take (i := 7) (oi := _) (v := (.agg (entC nm ino kd))) rfl (by kernel_rfl) (by kernel_rfl) (by kernel_rfl) (fun _ _ _ h => h) (yieldsIf_load_mid (by rfl) 34 _ rfl w.heap.size 0 rfl (entC nm ino kd).toList _ (fun w' h => ent_range h.2) Tryd.underlying34 rfl infoD3) hH ?_
    try simp only [Act.put, List.getElem_toArray, List.getElem_cons_zero, List.getElem_cons_succ, List.setIfInBounds_toArray, List.set_cons_zero, List.set_cons_succ]
    refine wpAnyH_ready (rs := [8]) (by kernel_rfl) (by simp) ?_
    refine AllReadyH.cons (o := _) rfl (fun K hK => ?_) AllReadyH.nil
    go_simp
    refine (dput_any (H := H) _ b mb ga ca (n + 1) nn base (xs ++ ([.string ⟨#[]⟩, .int .i64 0, .int .i64 0] : List Value)) D n nm ino kd (by omega) (by omega) hH.1 ((H8.out.1.blk.cell 1).trans rfl) H8.out.1.own H8.out.1.map.drew hnn hnm (fun e => hgab e.symm) HD.out.nb (fun e => H8.out.1.nm (by rw [← e]; rfl))).mono ?_
    rintro e w9 ⟨rfl, o9, m9, k9, b9⟩
    have hs9 : w8.heap.size ≤ w9.heap.size := (b9 0 (Nat.zero_le _) (Nat.zero_le _) (Nat.zero_le _)).size
    have hl8 : w.heap.size < w8.heap.size := KE.out.lt
    have hkb : w9.heap[b]? = w8.heap[b]? := k9 b (by show b < w8.heap.size; omega) (fun e => hgab e.symm) HD.out.nb
    have hkw : w9.heap[w.heap.size]? = w8.heap[w.heap.size]? := k9 w.heap.size hl8 (fun e => hgaw e.symm) (by omega)
    have H9 := hide (show Dr base w9 b mb (n + 1) (nn + 1) (.slice (some ⟨ga, 0, none⟩) (n + 1) ca) (putE (xs ++ [.string ⟨#[]⟩, .int .i64 0, .int .i64 0]) n nm ino kd) (D.put (.string nm.data.toList) (.lit (.int .i64 n))) ∧ Fr w w9 b mb (.slice la n lc) (.slice (some ⟨ga, 0, none⟩) (n + 1) ca) from by
      refine ⟨⟨hkb.trans H8.out.1.blk, o9, H8.out.1.ne, m9, HD.out.nb⟩, ⟨fun k h1 h2 h3 h4 => ?_, H8.out.2.fresh, ?_⟩⟩
      · rw [k9 k (by show k < w8.heap.size; omega) (fun e => ?_) h3]
        · exact H8.out.2.kept k h1 h2 h3 h4
        · rcases H8.out.2.fresh ga rfl with h | h
          · exact h4 (by rw [e]; exact h)
          · omega
      · exact H8.out.2.low.trans (((Below.refl 0 w8).drew).trans (b9 0 (Nat.zero_le _) (Nat.zero_le _) (Nat.zero_le _))))
    refine hK.out _ _ ⟨(World.cell?_of_block (a := ⟨b, 0, none⟩) hkb).trans ((H8.out.1.blk.cell 0).trans rfl), hkw.trans KE.out⟩ (fun hH9 => ?_)
    clear hK K
    try simp only [Act.put, List.getElem_toArray, List.getElem_cons_zero, List.getElem_cons_succ, List.setIfInBounds_toArray, List.set_cons_zero, List.set_cons_succ]
    refine wpAnyH_done (by kernel_rfl) (NoPanic.normal ?_) _
    clear hH hH9 o9 m9 k9 b9 hkb hkw
    go_wp2
    go_end0
    exact ⟨rfl, _, H9.out.1, H9.out.2⟩
end Go.Proofs.YtcciaojdceejcaaDoor

namespace Go.Proofs.YtcciaojdceejcaaDoor
set_option linter.unusedVariables false
set_option linter.unusedSimpArgs false
open Go.RowKit

/-- The cells of slots' entries in a row. -/
def entsI : List (ByteArray × Int × Int) → List Value
  | [] => []
  | e :: es => .string e.1 :: .int .i64 e.2.1 :: .int .i64 e.2.2 :: entsI es
theorem entsI_len : ∀ es, (entsI es).length = es.length * 3
  | [] => rfl
  | e :: es => by rw [entsI, List.length_cons, List.length_cons, List.length_cons, entsI_len es, List.length_cons]; omega
theorem entsI_append : ∀ es fs, entsI (es ++ fs) = entsI es ++ entsI fs
  | [], _ => rfl
  | e :: es, fs => by simp [entsI, entsI_append es fs]
theorem entsI_drop : ∀ (es : List (ByteArray × Int × Int)) (m : Nat), (entsI es).drop (m * 3) = entsI (es.drop m)
  | es, 0 => by simp
  | [], m + 1 => by simp [entsI]
  | e :: es, m + 1 => by
    rw [entsI, show (m + 1) * 3 = m * 3 + 1 + 1 + 1 by omega]
    simp only [List.drop_succ_cons]
    exact entsI_drop es m
theorem putE_snoc (es : List (ByteArray × Int × Int)) (nm : ByteArray) (ino kd : Int) : putE (entsI es ++ [.string ⟨#[]⟩, .int .i64 0, .int .i64 0]) es.length nm ino kd = entsI (es ++ [(nm, ino, kd)]) := by
  rw [entsI_append]
  unfold putE
  have hl := entsI_len es
  rw [List.set_append_right _ _ (by omega), List.set_append_right _ _ (by omega), List.set_append_right _ _ (by omega)]
  rw [show es.length * 3 - (entsI es).length = 0 by omega, show es.length * 3 + 1 - (entsI es).length = 1 by omega, show es.length * 3 + 1 + 1 - (entsI es).length = 2 by omega]
  rfl
/-- An entry that is zero. -/
def zE (e : ByteArray × Int × Int) : Bool := entEq e.1 e.2.1 e.2.2 ⟨#[]⟩ 0 0
theorem part_ent (w : World) (cs : Array Value) (off : Nat) (nm : ByteArray) (ino kd : Int) (h : cs.extract off (off + 3) = entC nm ino kd) : (part 34 cs off).run Tryd.prog w = .ok (.agg (entC nm ino kd)) w := by
  obtain ⟨i0, hi, hz0, hz1, hz2⟩ := info_parts infoD
  simp [part, isAgg, run_underlying Tryd.underlying34, run_sizeOf w hi, hz1, h]
def zeroes : Nat → List (ByteArray × Int × Int)
  | 0 => []
  | n + 1 => (⟨#[]⟩, 0, 0) :: zeroes n
theorem ext_ent (es : List (ByteArray × Int × Int)) (m : Nat) (e : ByteArray × Int × Int) (h : es[m]? = some e) : (entsI es).toArray.extract (m * 3) (m * 3 + 3) = entC e.1 e.2.1 e.2.2 := by
  have hm : m < es.length := (List.getElem?_eq_some_iff.1 h).1
  have he : es[m] = e := (List.getElem?_eq_some_iff.1 h).2
  apply Array.ext'
  rw [List.extract_toArray]
  show (entsI es).extract (m * 3) (m * 3 + 3) = _
  rw [List.extract_eq_take_drop, show m * 3 + 3 - m * 3 = 3 by omega, entsI_drop, List.drop_eq_getElem_cons hm, he]
  rfl
theorem eqItems_ents (w : World) (d : Nat) (es : List (ByteArray × Int × Int)) (n : Nat) (hn : es.length = n) : ∀ (is : List Nat), (∀ i ∈ is, i < n) →
    (Op.eqItems (d + 2) 34 3 (entsI es).toArray (entsI (zeroes n)).toArray is).run Tryd.prog w = .ok (is.all fun i => zE (es.getD i (⟨#[]⟩, 0, 0))) w
  | [], _ => by simp [Op.eqItems]
  | i :: is, h => by
    have hi := h i (by simp)
    have h1 : es[i]? = some (es.getD i (⟨#[]⟩, 0, 0)) := by rw [List.getD, List.getElem?_eq_getElem (by omega)]; rfl
    have h2 : ∀ (n i : Nat), i < n → (zeroes n)[i]? = some (⟨#[]⟩, 0, 0) := by
      intro n
      induction n with
      | zero => intro i hi; omega
      | succ n ih =>
        intro i hi
        cases i with
        | zero => rfl
        | succ i => exact ih i (by omega)
    exact eqItems_cons w (part_ent w _ _ _ _ _ (ext_ent es i _ h1)) (part_ent w _ _ _ _ _ (ext_ent _ i _ (h2 n i hi))) (eqEnt w d _ _ _ _ _ _) (eqItems_ents w d es n hn is (fun j hj => h j (by simp [hj])))
theorem wpList_arrayAt {P : Program} {ops : Array Oper} {rest : List Oper} {op : Oper} {a : Act} {w : World} {Q : Exit → Act → World → Prop} (hw : Region.wanted op (yielded ops a.tmps) = true) (t e : TypeId) (N : Nat) (x : Operand) (ho : op.op = .sliceToArrayPointer t x)
    (ad : Option Addr) (len cap : Nat) (hx : a.eval x = .slice ad len cap) (hu : P.underlying t = some (.array N e)) (hl : N ≤ len) (h : wpList P ops Q rest (a.put op.dst (.pointer ad)) w) : wpList P ops Q (op :: rest) a w :=
  Go.BigFrame.wpList_want hw fun K hK => by
    have hrun : (execOp a.eval op).run P w = .ok (.value (.pointer ad)) w := by
      simp [execOp, ho, hx, Instr.arrayAt, run_underlying hu, Nat.not_lt.mpr hl, Result.andThen]
    unfold Oper.wp
    rw [hrun, Oper.upon_value]
    exact hK _ _ h
theorem wpList_eqlW {P : Program} {ops : Array Oper} {rest : List Oper} {o : Oper} {a : Act} {w : World} {Q : Exit → Act → World → Prop} (hw : Region.wanted o (yielded ops a.tmps) = true) (t u : TypeId) (x y : Operand) (ho : o.op = .binOp .eql t x y u)
    (cs ds : Array Value) (hx : a.eval x = .agg cs) (hy : a.eval y = .agg ds) (hm : P.eqGuardType P.depth t = false) (b : Bool) (hE : (Op.equalIn 10000 t (.agg cs) (.agg ds)).run P w = .ok b w)
    (h : wpList P ops Q rest (a.put o.dst (.bool b)) w) : wpList P ops Q (o :: rest) a w :=
  Go.BigFrame.wpList_want hw fun K hK => by
    have hrun : (execOp a.eval o).run P w = .ok (.value (.bool b)) w := by
      simp [execOp, ho, hx, hy, run_eqGuard_agg w _ _ _ _ _ _ hm, run_eql_struct, hE, Result.andThen]
    unfold Oper.wp
    rw [hrun, Oper.upon_value]
    exact hK _ _ h
theorem guardSb : Tryd.prog.eqGuardType Tryd.prog.depth 104 = false := by kernel_rfl
theorem cellsT_ent : Tryd.prog.cellsOf 34 = 3 := by kernel_rfl
theorem info48 : (Tryd.prog.info? 104).map (·.size) = some 48 := by kernel_rfl
set_option maxRecDepth 100000 in
theorem eqBlk (w : World) (es : List (ByteArray × Int × Int)) (hn : es.length = 16) : (Op.equalIn 10000 104 (.agg (entsI es).toArray) (.agg (entsI (zeroes 16)).toArray)).run Tryd.prog w = .ok (es.all zE) w := by
  obtain ⟨i0, hi, _⟩ := info_parts infoD
  rw [run_equalIn_array w 9999 _ _ Tryd.underlying104 hi, cellsT_ent, eqItems_ents w 9997 es 16 hn (List.range 16) (by intro i hi; simpa using hi)]
  have e : ((List.range 16).all fun i => zE (es.getD i (⟨#[]⟩, 0, 0))) = es.all zE := ?_
  · rw [e]
  rw [Bool.eq_iff_iff]
  simp only [List.all_eq_true, List.mem_range]
  constructor
  · intro h e he
    obtain ⟨i, hi, rfl⟩ := List.getElem_of_mem he
    have := h i (by omega)
    rwa [List.getD, List.getElem?_eq_getElem hi] at this
  · intro h i hi
    rw [List.getD, List.getElem?_eq_getElem (by omega)]
    exact h _ (List.getElem_mem _)
set_option maxRecDepth 100000 in
set_option maxHeartbeats 1000000 in
theorem endsEmpty_big {H : Type} (base : Nat) (w : World) (b mb nn : Nat) (v : Value) (L : List (ByteArray × Int × Int)) (D : DataW H) (h : Dr base w b mb L.length nn v (entsI L) D) (hn : L.length ≤ 8192) (h16 : 16 ≤ L.length) :
    Calls Tryd.prog 59 #[.pointer (some ⟨b, 0, none⟩)] w fun e w' => e = .returned (.bool ((L.drop (L.length - 16)).all zE)) ∧ w' = w := by
  obtain ⟨g, cap, rfl, hg1, hg2, hcc⟩ := own_sliceD h.own (by omega)
  have c0 : w.cell? ⟨b, 0, none⟩ = some (.slice (some ⟨g, 0, none⟩) L.length cap) := (h.blk.cell 0).trans rfl
  have HD := hide h
  have hcap : L.length ≤ cap ∧ cap ≤ maxLen := by
    rcases h.own.2 with ⟨e, _⟩ | ⟨g', cp, cur, e, _, _, h1, h2, _⟩
    · cases e
    · injection e with _ _ e3
      subst e3
      exact ⟨h1, h2⟩
  obtain ⟨hc1, hc2⟩ := hcap
  unfold maxLen at hc2
  clear h
  obtain ⟨n, hnL⟩ : ∃ n, n = L.length := ⟨_, rfl⟩
  rw [← hnL] at c0 hc1 hn h16
  have HNL := hide hnL
  clear hnL
  have hq1 : ¬ cap = n - 16 := by omega
  have hq2 : (16 : Int) ≤ (n : Int) := by omega
  have hq3 : (n : Int) ≤ (cap : Int) := by omega
  go_enter Tryd.func59, Tryd.ntmps59
  have HRg := hide (show w.rangeAt g ((n - 16) * 3) (entsI (L.drop (n - 16))) from fun j u hj => by
    rw [← entsI_drop, List.getElem?_drop] at hj
    have h1 := hcc _ u hj
    rw [Addr.add_mid, Nat.zero_add] at h1
    exact h1)
  have HLn := hide (show (L.drop (n - 16)).length = 16 from by rw [List.length_drop, ← HNL.out]; omega)
  have HEq := hide (eqBlk w (L.drop (n - 16)) HLn.out)
  have HLC := hide (show (entsI (L.drop (n - 16))).length = 48 from by rw [entsI_len, HLn.out])
  clear hcc
  go_wp2_with (first | (refine wpList_arrayAt (by first | rfl | simp [Region.wanted, yielded]) 104 34 16 _ rfl (some ⟨g, (n - 16) * 3, none⟩) (n - (n - 16)) (cap - (n - 16)) rfl Tryd.underlying104 (by omega) ?_) | (refine wpList_load_midG (by first | rfl | simp [Region.wanted, yielded]) 104 _ rfl g ((n - 16) * 3) rfl (entsI (L.drop (n - 16))) _ HRg.out Tryd.underlying104 rfl (by rw [HLC.out]; exact info48) ?_) | (refine wpList_eqlW (by first | rfl | simp [Region.wanted, yielded]) 104 _ _ _ rfl (entsI (L.drop (n - 16))).toArray (entsI (zeroes 16)).toArray rfl rfl guardSb _ HEq.out ?_))
  go_ret
  rw [← HNL.out]
  exact ⟨rfl, rfl⟩
set_option maxRecDepth 100000 in
set_option maxHeartbeats 1000000 in
theorem endsEmpty_small {H : Type} (base : Nat) (w : World) (b mb nn n : Nat) (v : Value) (xs : List Value) (D : DataW H) (h : Dr base w b mb n nn v xs D) (h16 : n < 16) :
    Calls Tryd.prog 59 #[.pointer (some ⟨b, 0, none⟩)] w fun e w' => e = .returned (.bool false) ∧ w' = w := by
  obtain ⟨la, lc, rfl⟩ := ownD_shape h.own
  have c0 : w.cell? ⟨b, 0, none⟩ = some (.slice la n lc) := (h.blk.cell 0).trans rfl
  clear h
  have hq1 : ¬ (16 : Int) ≤ (n : Int) := by omega
  go_enter Tryd.func59, Tryd.ntmps59
  go_wp2
  go_ret
  exact ⟨rfl, rfl⟩
end Go.Proofs.YtcciaojdceejcaaDoor

namespace Go.Proofs.YtcciaojdceejcaaDoor
set_option linter.unusedVariables false
set_option linter.unusedSimpArgs false
open Go.RowKit

/-- The entry that slot k tells. -/
def slotE (zs : List Int) (k : Nat) : ByteArray × Int × Int := if sZero (slotK zs k) = true then (⟨#[]⟩, 0, 0) else (sName (slotK zs k), (sIno (slotK zs k) : Int), (sKind (slotK zs k) : Int))
def slotsL (zs : List Int) (k : Nat) : List (ByteArray × Int × Int) := (List.range k).map (slotE zs)
theorem slotsL_len (zs : List Int) (k : Nat) : (slotsL zs k).length = k := by simp [slotsL]
theorem slotsL_succ (zs : List Int) (k : Nat) : slotsL zs (k + 1) = slotsL zs k ++ [slotE zs k] := by simp [slotsL, List.range_succ]
/-- The map behind the first k slots. -/
def mapD (H : Type) (zs : List Int) : Nat → DataW H
  | 0 => .map []
  | k + 1 => if sZero (slotK zs k) = true then mapD H zs k else (mapD H zs k).put (.string (sName (slotK zs k)).data.toList) (.lit (.int .i64 k))
theorem mapD_map (H : Type) (zs : List Int) : ∀ k, ∃ es, mapD H zs k = .map es
  | 0 => ⟨[], rfl⟩
  | k + 1 => by
    obtain ⟨es, he⟩ := mapD_map H zs k
    unfold mapD
    split
    · exact ⟨es, he⟩
    · rw [he]; exact ⟨_, rfl⟩
theorem entT_some {zs : List Int} {k : Nat} {fs : List (ByteArray × Nat × Nat)} (h : entT zs (k + 1) = some fs) : ∃ es, entT zs k = some es ∧ ((sZero (slotK zs k) = true ∧ fs = es) ∨ (sZero (slotK zs k) = false ∧ sRight (slotK zs k) = true ∧ (es.any fun e => e.1.toList == (sName (slotK zs k)).toList) = false ∧ fs = es ++ [(sName (slotK zs k), sIno (slotK zs k), sKind (slotK zs k))])) := by
  cases he : entT zs k with
  | none => rw [entT, he] at h; cases h
  | some es =>
    refine ⟨es, rfl, ?_⟩
    cases hz : sZero (slotK zs k) with
    | true => rw [entT_zero he hz] at h; exact .inl ⟨rfl, by cases h; rfl⟩
    | false =>
      cases hr : sRight (slotK zs k) with
      | false => rw [entT_bad he hz hr] at h; cases h
      | true =>
        cases ha : (es.any fun e => e.1.toList == (sName (slotK zs k)).toList) with
        | true => rw [entT_twice he hz ha] at h; cases h
        | false => rw [entT_more he hz hr ha] at h; exact .inr ⟨rfl, rfl, rfl, by cases h; rfl⟩
theorem right_name {ps : List Int} (h : sRight ps = true) : (sName ps).toList ≠ [] := by
  have h2 : (Chk.chkS (sName ps) == 0) = true := by
    simp only [sRight, Bool.and_eq_true] at h
    exact h.2.2.2
  intro e
  rw [Chk.spell1 _ e] at h2
  simp at h2
theorem entT_names {zs : List Int} : ∀ {k : Nat} {es : List (ByteArray × Nat × Nat)}, entT zs k = some es → ∀ e ∈ es, e.1.toList ≠ []
  | 0, es, h, e, he => by cases h; simp at he
  | k + 1, fs, h, e, he => by
    obtain ⟨es, h1, h2⟩ := entT_some h
    rcases h2 with ⟨_, rfl⟩ | ⟨_, hr, _, rfl⟩
    · exact entT_names h1 e he
    · rcases List.mem_append.1 he with he | he
      · exact entT_names h1 e he
      · obtain rfl := List.mem_singleton.1 he
        exact right_name hr
theorem mapD_has (H : Type) {zs : List Int} (nm : ByteArray) : ∀ {k : Nat} {es : List (ByteArray × Nat × Nat)}, entT zs k = some es → Maps.has (mapD H zs k) (.string nm.data.toList) = es.any fun e => e.1.toList == nm.toList
  | 0, es, h => by cases h; rfl
  | k + 1, fs, h => by
    obtain ⟨es, h1, h2⟩ := entT_some h
    have ih := mapD_has H nm h1
    rcases h2 with ⟨hz, rfl⟩ | ⟨hz, hr, ha, rfl⟩
    · rw [mapD, if_pos hz]; exact ih
    · rw [mapD, if_neg (by rw [hz]; simp), List.any_append, ← ih]
      obtain ⟨ds, hd⟩ := mapD_map H zs k
      by_cases e : (sName (slotK zs k)).toList = nm.toList
      · have e2 : (sName (slotK zs k)).data.toList = nm.data.toList := by rw [← ByteArray.toList_eq, ← ByteArray.toList_eq]; exact e
        rw [← e2, Maps.has_put_same (by rw [hd]; exact ⟨_, rfl⟩) (by first | trivial | simp [WideAt.IsKeyLit] | exact ⟨_, rfl⟩)]
        simp [e]
      · have e2 : (Lit.string nm.data.toList) ≠ .string (sName (slotK zs k)).data.toList := by
          intro h
          injection h with h
          rw [← ByteArray.toList_eq, ← ByteArray.toList_eq] at h
          exact e h.symm
        rw [Maps.has_put_other e2]
        simp [e]
theorem zE_slot {zs : List Int} {k : Nat} (h : (sZero (slotK zs k) || sRight (slotK zs k)) = true) : zE (slotE zs k) = sZero (slotK zs k) := by
  unfold zE slotE
  cases hz : sZero (slotK zs k) with
  | true => rw [if_pos rfl]; exact (entEq_iff _ _ _).mpr ⟨by rw [ByteArray.toList_eq], rfl, rfl⟩
  | false =>
    rw [if_neg (by simp)]
    rw [hz, Bool.false_or] at h
    cases he : entEq (sName (slotK zs k)) (sIno (slotK zs k)) (sKind (slotK zs k)) ⟨#[]⟩ 0 0 with
    | false => rfl
    | true => exact absurd ((entEq_iff _ _ _).mp he).1 (right_name h)
/-- One more slot. -/
theorem entT_step (H : Type) {zs : List Int} {k : Nat} {es : List (ByteArray × Nat × Nat)} (h : entT zs k = some es) (hok : (sZero (slotK zs k) || sRight (slotK zs k)) = true) : (entT zs (k + 1)).isSome = !(Maps.has (mapD H zs k) (.string (slotE zs k).1.data.toList)) := by
  rw [mapD_has H _ h]
  cases hz : sZero (slotK zs k) with
  | true =>
    rw [entT_zero h hz, slotE, if_pos hz]
    have : (es.any fun e => e.1.toList == (⟨#[]⟩ : ByteArray).toList) = false := by
      rw [List.any_eq_false]
      intro e he
      have := entT_names h e he
      rw [show (⟨#[]⟩ : ByteArray).toList = [] from by rw [ByteArray.toList_eq]]
      simpa using this
    rw [this]
    rfl
  | false =>
    rw [hz, Bool.false_or] at hok
    rw [slotE, if_neg (by rw [hz]; simp)]
    cases ha : (es.any fun e => e.1.toList == (sName (slotK zs k)).toList) with
    | true => rw [entT_twice h hz ha]; rfl
    | false => rw [entT_more h hz hok ha]; rfl
theorem entT_stop {zs : List Int} {k : Nat} (h : (sZero (slotK zs k) || sRight (slotK zs k)) = false) : entT zs (k + 1) = none := by
  rw [Bool.or_eq_false_iff] at h
  cases he : entT zs k with
  | none => rw [entT, he]
  | some es => exact entT_bad he h.1 h.2
theorem entT_ok {zs : List Int} : ∀ {k : Nat} {es : List (ByteArray × Nat × Nat)}, entT zs k = some es → ∀ j, j < k → (sZero (slotK zs j) || sRight (slotK zs j)) = true
  | 0, _, _, j, hj => by omega
  | k + 1, fs, h, j, hj => by
    obtain ⟨es, h1, h2⟩ := entT_some h
    rcases Nat.lt_or_ge j k with hlt | hge
    · exact entT_ok h1 j hlt
    · obtain rfl : j = k := by omega
      rcases h2 with ⟨hz, _⟩ | ⟨_, hr, _⟩
      · rw [hz]; rfl
      · rw [hr]; simp
theorem allZ_slots (zs : List Int) (N : Nat) (hl : zs.length = N * 32) : ∀ (d m : Nat), m + d = N → (allZ (zs.drop (m * 32)) = true ↔ ∀ j, m ≤ j → j < N → sZero (slotK zs j) = true)
  | 0, m, h => by
    have : zs.drop (m * 32) = [] := List.drop_eq_nil_of_le (by omega)
    rw [this]
    exact ⟨fun _ j h1 h2 => by omega, fun _ => rfl⟩
  | d + 1, m, h => by
    have ih := allZ_slots zs N hl d (m + 1) (by omega)
    have e : zs.drop (m * 32) = slotK zs m ++ zs.drop ((m + 1) * 32) := by
      unfold slotK
      rw [show (m + 1) * 32 = m * 32 + 32 by omega, ← List.drop_drop, List.take_append_drop]
    rw [e]
    unfold allZ at ih ⊢
    rw [List.all_append, Bool.and_eq_true, ih]
    constructor
    · rintro ⟨h1, h2⟩ j h3 h4
      rcases Nat.eq_or_lt_of_le h3 with rfl | h5
      · exact h1
      · exact h2 j h5 h4
    · intro h1
      exact ⟨h1 m (Nat.le_refl _) (by omega), fun j h3 h4 => h1 j (by omega) h4⟩
theorem ends_slots {zs : List Int} {N m : Nat} {es : List (ByteArray × Nat × Nat)} (h : entT zs N = some es) : (((slotsL zs N).drop m).all zE = true ↔ ∀ j, m ≤ j → j < N → sZero (slotK zs j) = true) := by
  rw [List.all_eq_true]
  constructor
  · intro h1 j h2 h3
    rw [← zE_slot (entT_ok h j h3)]
    refine h1 _ ?_
    rw [List.mem_iff_getElem?]
    refine ⟨j - m, ?_⟩
    rw [List.getElem?_drop, show m + (j - m) = j by omega, slotsL, List.getElem?_map, List.getElem?_range h3]
    rfl
  · intro h1 e he
    rw [List.mem_iff_getElem?] at he
    obtain ⟨i, hi⟩ := he
    rw [List.getElem?_drop, slotsL, List.getElem?_map] at hi
    have hlt : m + i < N := by
      rcases Nat.lt_or_ge (m + i) N with h2 | h2
      · exact h2
      · rw [List.getElem?_eq_none (by simpa using h2)] at hi; cases hi
    rw [List.getElem?_range hlt] at hi
    obtain rfl := Option.some.inj hi
    rw [zE_slot (entT_ok h _ hlt)]
    exact h1 _ (by omega) hlt
/-- The last block: what the program looks at is what the model looks at. -/
theorem ends_model {zs : List Int} {es : List (ByteArray × Nat × Nat)} (h512 : zs.length % 512 = 0) (h0 : 0 < zs.length) (h : entT zs (zs.length / 32) = some es) : ((slotsL zs (zs.length / 32)).drop (zs.length / 32 - 16)).all zE = allZ (zs.drop (zs.length - 512)) := by
  have h1 := ends_slots (m := zs.length / 32 - 16) h
  have h2 := allZ_slots zs (zs.length / 32) (by omega) 16 (zs.length / 32 - 16) (by omega)
  rw [show (zs.length / 32 - 16) * 32 = zs.length - 512 by omega] at h2
  rw [Bool.eq_iff_iff, h1, h2]
/-- Whether the bytes are a directory, as the program finds it. -/
theorem dirOk_eq {zs : List Int} (h512 : zs.length % 512 = 0) (hl : zs.length ≤ 262144) : dirOk zs = ((entT zs (zs.length / 32)).isSome && !(decide (16 ≤ zs.length / 32) && ((slotsL zs (zs.length / 32)).drop (zs.length / 32 - 16)).all zE)) := by
  unfold dirOk
  rw [decide_eq_true h512, decide_eq_true hl, Bool.true_and, Bool.true_and]
  cases he : entT zs (zs.length / 32) with
  | none => rfl
  | some es =>
    rcases Nat.eq_zero_or_pos zs.length with h0 | h0
    · have e0 : ¬ 0 < zs.length := by omega
      have e16 : ¬ 16 ≤ zs.length / 32 := by omega
      simp only [decide_eq_false e0, decide_eq_false e16, Bool.false_and]
    · have e16 : 16 ≤ zs.length / 32 := by omega
      rw [ends_model h512 h0 he]
      generalize allZ (zs.drop (zs.length - 512)) = q
      simp [h0, e16]
end Go.Proofs.YtcciaojdceejcaaDoor

namespace Go.Proofs.YtcciaojdceejcaaDoor
set_option linter.unusedVariables false
set_option linter.unusedSimpArgs false
open Go.RowKit

/-- The entries of the slots ks (the last one first), or none if one is wrong. -/
def entR (zs : List Int) : List Nat → Option (List (ByteArray × Nat × Nat))
  | [] => some []
  | k :: ks => match entR zs ks with
    | none => none
    | some es => if sZero (slotK zs k) = true then some es else if (sRight (slotK zs k) && !(es.any fun e => e.1.toList == (sName (slotK zs k)).toList)) = true then some (es ++ [(sName (slotK zs k), sIno (slotK zs k), sKind (slotK zs k))]) else none
theorem entR_range (zs : List Int) : ∀ k, entR zs (List.range k).reverse = entT zs k
  | 0 => rfl
  | k + 1 => by
    rw [List.range_succ, List.reverse_append]
    show entR zs (k :: (List.range k).reverse) = _
    rw [entR, entR_range zs k, entT]
    cases entT zs k <;> rfl
theorem entR_zero {zs : List Int} {k : Nat} {ks : List Nat} {es : List (ByteArray × Nat × Nat)} (h : entR zs ks = some es) (hz : sZero (slotK zs k) = true) : entR zs (k :: ks) = some es := by
  rw [entR, h]; simp [hz]
theorem entR_bad {zs : List Int} {k : Nat} {ks : List Nat} {es : List (ByteArray × Nat × Nat)} (h : entR zs ks = some es) (hz : sZero (slotK zs k) = false) (hr : sRight (slotK zs k) = false) : entR zs (k :: ks) = none := by
  rw [entR, h]; simp [hz, hr]
theorem entR_twice {zs : List Int} {k : Nat} {ks : List Nat} {es : List (ByteArray × Nat × Nat)} (h : entR zs ks = some es) (hz : sZero (slotK zs k) = false) (ht : (es.any fun e => e.1.toList == (sName (slotK zs k)).toList) = true) : entR zs (k :: ks) = none := by
  rw [entR, h]
  show (if sZero (slotK zs k) = true then some es else if (sRight (slotK zs k) && !(es.any fun e => e.1.toList == (sName (slotK zs k)).toList)) = true then _ else none) = none
  rw [hz, ht]; simp
theorem entR_more {zs : List Int} {k : Nat} {ks : List Nat} {es : List (ByteArray × Nat × Nat)} (h : entR zs ks = some es) (hz : sZero (slotK zs k) = false) (hr : sRight (slotK zs k) = true) (ht : (es.any fun e => e.1.toList == (sName (slotK zs k)).toList) = false) : entR zs (k :: ks) = some (es ++ [(sName (slotK zs k), sIno (slotK zs k), sKind (slotK zs k))]) := by
  rw [entR, h]
  show (if sZero (slotK zs k) = true then some es else if (sRight (slotK zs k) && !(es.any fun e => e.1.toList == (sName (slotK zs k)).toList)) = true then _ else none) = _
  rw [hz, hr, ht]; simp
/-- The map behind the slots ks (the last one first). -/
def mapR (H : Type) (zs : List Int) : List Nat → DataW H
  | [] => .map []
  | k :: ks => if sZero (slotK zs k) = true then mapR H zs ks else (mapR H zs ks).put (.string (sName (slotK zs k)).data.toList) (.lit (.int .i64 ks.length))
theorem mapR_map (H : Type) (zs : List Int) : ∀ ks, ∃ es, mapR H zs ks = .map es
  | [] => ⟨[], rfl⟩
  | k :: ks => by
    obtain ⟨es, he⟩ := mapR_map H zs ks
    unfold mapR
    split
    · exact ⟨es, he⟩
    · rw [he]; exact ⟨_, rfl⟩
theorem entR_some {zs : List Int} {k : Nat} {ks : List Nat} {fs : List (ByteArray × Nat × Nat)} (h : entR zs (k :: ks) = some fs) : ∃ es, entR zs ks = some es ∧ ((sZero (slotK zs k) = true ∧ fs = es) ∨ (sZero (slotK zs k) = false ∧ sRight (slotK zs k) = true ∧ (es.any fun e => e.1.toList == (sName (slotK zs k)).toList) = false ∧ fs = es ++ [(sName (slotK zs k), sIno (slotK zs k), sKind (slotK zs k))])) := by
  cases he : entR zs ks with
  | none => rw [entR, he] at h; cases h
  | some es =>
    refine ⟨es, rfl, ?_⟩
    cases hz : sZero (slotK zs k) with
    | true => rw [entR_zero he hz] at h; exact .inl ⟨rfl, by cases h; rfl⟩
    | false =>
      cases hr : sRight (slotK zs k) with
      | false => rw [entR_bad he hz hr] at h; cases h
      | true =>
        cases ha : (es.any fun e => e.1.toList == (sName (slotK zs k)).toList) with
        | true => rw [entR_twice he hz ha] at h; cases h
        | false => rw [entR_more he hz hr ha] at h; exact .inr ⟨rfl, rfl, rfl, by cases h; rfl⟩
theorem entR_names {zs : List Int} : ∀ {ks : List Nat} {es : List (ByteArray × Nat × Nat)}, entR zs ks = some es → ∀ e ∈ es, e.1.toList ≠ []
  | [], es, h, e, he => by cases h; simp at he
  | k :: ks, fs, h, e, he => by
    obtain ⟨es, h1, h2⟩ := entR_some h
    rcases h2 with ⟨_, rfl⟩ | ⟨_, hr, _, rfl⟩
    · exact entR_names h1 e he
    · rcases List.mem_append.1 he with he | he
      · exact entR_names h1 e he
      · obtain rfl := List.mem_singleton.1 he
        exact right_name hr
theorem mapR_has (H : Type) {zs : List Int} (nm : ByteArray) : ∀ {ks : List Nat} {es : List (ByteArray × Nat × Nat)}, entR zs ks = some es → Maps.has (mapR H zs ks) (.string nm.data.toList) = es.any fun e => e.1.toList == nm.toList
  | [], es, h => by cases h; rfl
  | k :: ks, fs, h => by
    obtain ⟨es, h1, h2⟩ := entR_some h
    have ih := mapR_has H nm h1
    rcases h2 with ⟨hz, rfl⟩ | ⟨hz, hr, ha, rfl⟩
    · rw [mapR, if_pos hz]; exact ih
    · rw [mapR, if_neg (by rw [hz]; simp), List.any_append, ← ih]
      obtain ⟨ds, hd⟩ := mapR_map H zs ks
      by_cases e : (sName (slotK zs k)).toList = nm.toList
      · have e2 : (sName (slotK zs k)).data.toList = nm.data.toList := by rw [← ByteArray.toList_eq, ← ByteArray.toList_eq]; exact e
        rw [← e2, Maps.has_put_same (by rw [hd]; exact ⟨_, rfl⟩) (by first | trivial | simp [WideAt.IsKeyLit] | exact ⟨_, rfl⟩)]
        simp [e]
      · have e2 : (Lit.string nm.data.toList) ≠ .string (sName (slotK zs k)).data.toList := by
          intro h
          injection h with h
          rw [← ByteArray.toList_eq, ← ByteArray.toList_eq] at h
          exact e h.symm
        rw [Maps.has_put_other e2]
        simp [e]
/-- One more slot. -/
theorem entR_step (H : Type) {zs : List Int} {k : Nat} {ks : List Nat} {es : List (ByteArray × Nat × Nat)} (h : entR zs ks = some es) (hok : (sZero (slotK zs k) || sRight (slotK zs k)) = true) : (entR zs (k :: ks)).isSome = !(Maps.has (mapR H zs ks) (.string (slotE zs k).1.data.toList)) := by
  rw [mapR_has H _ h]
  cases hz : sZero (slotK zs k) with
  | true =>
    rw [entR_zero h hz, slotE, if_pos hz]
    have : (es.any fun e => e.1.toList == (⟨#[]⟩ : ByteArray).toList) = false := by
      rw [List.any_eq_false]
      intro e he
      have := entR_names h e he
      rw [show (⟨#[]⟩ : ByteArray).toList = [] from by rw [ByteArray.toList_eq]]
      simpa using this
    rw [this]
    rfl
  | false =>
    rw [hz, Bool.false_or] at hok
    rw [slotE, if_neg (by rw [hz]; simp)]
    cases ha : (es.any fun e => e.1.toList == (sName (slotK zs k)).toList) with
    | true => rw [entR_twice h hz ha]; rfl
    | false => rw [entR_more h hz hok ha]; rfl
theorem entR_stop {zs : List Int} {k : Nat} {ks : List Nat} (h : (sZero (slotK zs k) || sRight (slotK zs k)) = false) : entR zs (k :: ks) = none := by
  rw [Bool.or_eq_false_iff] at h
  cases he : entR zs ks with
  | none => rw [entR, he]
  | some es => exact entR_bad he h.1 h.2
end Go.Proofs.YtcciaojdceejcaaDoor
