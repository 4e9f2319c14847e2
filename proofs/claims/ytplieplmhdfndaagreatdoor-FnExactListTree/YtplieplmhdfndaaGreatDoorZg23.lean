/- The program's directories: put. -/
import Derived.Test.YtplieplmhdfndaaGreatDoorZg14
import Derived.Maps.Own
import Derived.StringKeys
namespace Go.Proofs.YtplieplmhdfndaaGreatDoor
set_option linter.unusedVariables false
set_option linter.unusedSimpArgs false
open Go.RowKit

theorem own_setCell {w : World} {base : Nat} {e : TypeId} {size : Nat} {v : Value} {n : Nat} {xs : List Value} (h : w.ownsRow base e size v n xs) {g : Nat} (hg : v.ownBlock = some g) (o : Nat) (u : Value) : (w.setCell ⟨g, o, none⟩ u).ownsRow base e size v n (xs.set o u) := by
  rcases h.2 with ⟨rfl, _⟩ | ⟨g', cap, cur, rfl, hb, hc, hn, hm, hs, ht⟩
  · cases hg
  · obtain rfl : g' = g := by simpa [Value.ownBlock] using hg
    refine ⟨by simpa using h.1, .inr ⟨g', cap, cur.setIfInBounds o u, rfl, hb, heap_setCell_same w g' o cur e u hc, hn, hm, by simpa using hs, ?_⟩⟩
    rw [Array.toList_setIfInBounds, List.take_set, ht]
/-- Cells with an entry written in. -/
def putE (xs : List Value) (k : Nat) (nm : ByteArray) (ino kd : Int) : List Value := ((xs.set (k * 3) (.string nm)).set (k * 3 + 1) (.int .i64 ino)).set (k * 3 + 1 + 1) (.int .i64 kd)
theorem own_putE {w : World} {base : Nat} {v : Value} {n : Nat} {xs : List Value} {t : TypeId} (h : w.ownsRow base t 3 v n xs) {g : Nat} (hg : v.ownBlock = some g) (k : Nat) (nm : ByteArray) (ino kd : Int) : (w.setCells g (k * 3) (entC nm ino kd).toList).ownsRow base t 3 v n (putE xs k nm ino kd) :=
  own_setCell (own_setCell (own_setCell h hg _ _) hg _ _) hg _ _
theorem there_own {w : World} {base : Nat} {t : TypeId} {g n cap : Nat} {xs : List Value} (h : w.ownsRow base t 3 (.slice (some ⟨g, 0, none⟩) n cap) n xs) {k : Nat} (hk : k < n) : w.there g (k * 3) 3 := by
  rcases h.2 with ⟨e, _⟩ | ⟨g', cap', cur, e, hb, hc, hn, hm, hs, ht⟩
  · cases e
  · injection e with e1 e2 e3
    injection e1 with e1
    injection e1 with e1 e4
    subst e1
    intro j hj
    have hlt : k * 3 + j < cur.size := by rw [hs]; omega
    have hB : Blk w g cur t := hc
    refine ⟨?_, hB.frozen _⟩
    rw [hB.cell (k * 3 + j), Array.getElem?_eq_getElem hlt]
    rfl
theorem setCells_block (g : Nat) : ∀ (vs : List Value) (w : World) (o k : Nat), k ≠ g → (w.setCells g o vs).heap[k]? = w.heap[k]?
  | [], _, _, _, _ => rfl
  | v :: vs, w, o, k, h => by rw [World.setCells, setCells_block g vs _ _ k h]; exact heap_setCell_other w ⟨g, o, none⟩ k v h
theorem setCells_size (g : Nat) : ∀ (vs : List Value) (w : World) (o : Nat), (w.setCells g o vs).heap.size = w.heap.size
  | [], _, _ => rfl
  | v :: vs, w, o => by rw [World.setCells, setCells_size g vs]; simp
theorem wp_mapUpdate_ownD {H : Type} {P : Program} {o : Oper} {a : Act} {w : World} {K : Act → World → Prop} {Q : Exit → Act → World → Prop} (m x v : Operand) (t : TypeId) (hop : o.op = Op.mapUpdate t m x v)
    (k e : TypeId) (K0 : Maps.Keyed P k) (ht : P.underlying t = some (.map k e)) (R : Value → Option (DataW H × List MemPlace)) (b n : Nat) (D : DataW H)
    (hm : a.eval m = .map (some b)) (hown : w.ownsMap P k R b n D) (hn : n < maxLen) (key val : Value) (kl : Lit) (hx : a.eval x = key) (hv : a.eval v = val) (hkey : keyOf P k key = some kl)
    (d : DataW H) (ps : List MemPlace) (hval : R val = some (d, ps))
    (hK : ∀ w', w'.ownsMap P k R b (n + 1) (D.put kl d) → w.grownBy w' (some b) → K (a.put o.dst undef) w') : o.wp P a w K Q := by
  obtain ⟨w', hrun, r1, r2⟩ := hown.update K0 ht hn hkey hval
  unfold Oper.wp
  simp [execOp, hop, hm, hx, hv, hrun, Result.andThen]
  exact hK w' r1 r2
set_option maxRecDepth 100000 in
set_option maxHeartbeats 1000000 in
theorem dput_any {H : Type} (w : World) (b mb g cap n nn base : Nat) (xs : List Value) (D : DataW H) (slot : Nat) (nm : ByteArray) (ino kd : Int) (hs : slot < n) (hn : n ≤ 100000)
    (c0 : w.cell? ⟨b, 0, none⟩ = some (.slice (some ⟨g, 0, none⟩) n cap)) (c1 : w.cell? ⟨b, 1, none⟩ = some (.map (some mb)))
    (ho : w.ownsRow base 61 3 (.slice (some ⟨g, 0, none⟩) n cap) n xs) (hm : w.ownsMap Tryz.prog 9 (plainElem (H := H) Tryz.prog 3) mb nn D) (hnn : nn < maxLen) (hnm : nm.size ≤ maxLen) (hbg : b ≠ g) (hbm : b ≠ mb) (hgm : g ≠ mb) :
    Calls Tryz.prog 140 #[.pointer (some ⟨b, 0, none⟩), .int .i64 slot, .agg (entC nm ino kd)] w fun e w' => e = .returned (.tuple #[]) ∧ w'.ownsRow base 61 3 (.slice (some ⟨g, 0, none⟩) n cap) n (putE xs slot nm ino kd) ∧
      w'.ownsMap Tryz.prog 9 (plainElem (H := H) Tryz.prog 3) mb (nn + 1) (D.put (.string nm.data.toList) (.lit (.int .i64 slot))) ∧ (∀ k, k < w.heap.size → k ≠ g → k ≠ mb → w'.heap[k]? = w.heap[k]?) ∧ (∀ B, B ≤ g → B ≤ mb → B ≤ w.heap.size → Below B w w') := by
  have hbl : b < w.heap.size := cell_lt c0
  have hgl : g < w.heap.size := (ho.lt g rfl).2
  have hml : mb < w.heap.size := hm.lt
  have K0 := hide (Blk.new w (entC nm ino kd) 61)
  have H0 := hide (show (w.alloc (.cells (entC nm ino kd) 61)).cell? ⟨b, 0, none⟩ = some (.slice (some ⟨g, 0, none⟩) n cap) ∧ (w.alloc (.cells (entC nm ino kd) 61)).cell? ⟨b, 1, none⟩ = some (.map (some mb)) from ⟨by rw [World.cell?_alloc_lt _ _ _ hbl]; exact c0, by rw [World.cell?_alloc_lt _ _ _ hbl]; exact c1⟩)
  have HO := hide (ho.alloc (.cells (entC nm ino kd) 61))
  have HM := hide (hm.alloc (.cells (entC nm ino kd) 61))
  have HB := hide (show Below w.heap.size w (w.alloc (.cells (entC nm ino kd) 61)) from (Below.refl _ _).alloc (Nat.le_refl _) _)
  have HWf := hide (show (Lit.int .i64 (slot : Int)).wf = true from by simp [Lit.wf, IntKind.min, IntKind.max, IntKind.signed, IntKind.bits]; omega)
  clear c0 c1 ho hm
  go_enter Tryz.func140, Tryz.ntmps140
  go_wp2_with fail
  obtain ⟨W, hW⟩ : ∃ W, W = w.alloc (.cells (entC nm ino kd) 61) := ⟨_, rfl⟩
  have hsW : W.heap.size = w.heap.size + 1 := by rw [hW]; simp
  rw [← hW] at K0 H0 HO HM HB ⊢
  clear hW
  refine wp_region_noPanic ?_
  refine wp_region_held_drew (S := fun w' => w'.cell? ⟨b, 0, none⟩ = some (.slice (some ⟨g, 0, none⟩) n cap) ∧ Blk w' w.heap.size (entC nm ino kd) 61) (by kernel_rfl) ⟨H0.out.1, K0.out⟩ (fun hH => ?_)
  refine wpAnyH_take (i := 0) (oi := _) (v := (.pointer (some ⟨b, 0, none⟩))) rfl (by kernel_rfl) (by kernel_rfl) (by kernel_rfl) (fun _ _ _ h => h) (Or.inl ⟨by rfl, fun w' hw' => by go_simp⟩) hH ?_
  try simp only [Act.put, List.getElem_toArray, List.getElem_cons_zero, List.getElem_cons_succ, List.setIfInBounds_toArray, List.set_cons_zero, List.set_cons_succ]
  refine wpAnyH_take (i := 1) (oi := _) (v := (.pointer (some ⟨b, 0, none⟩))) rfl (by kernel_rfl) (by kernel_rfl) (by kernel_rfl) (fun _ _ _ h => h) (Or.inl ⟨by rfl, fun w' hw' => by go_simp⟩) hH ?_
  try simp only [Act.put, List.getElem_toArray, List.getElem_cons_zero, List.getElem_cons_succ, List.setIfInBounds_toArray, List.set_cons_zero, List.set_cons_succ]
  refine wpAnyH_take (i := 2) (oi := _) (v := (.pointer (some ⟨b, 0, none⟩))) rfl (by kernel_rfl) (by kernel_rfl) (by kernel_rfl) (fun _ _ _ h => h) (Or.inl ⟨by rfl, fun w' hw' => by go_simp⟩) hH ?_
  try simp only [Act.put, List.getElem_toArray, List.getElem_cons_zero, List.getElem_cons_succ, List.setIfInBounds_toArray, List.set_cons_zero, List.set_cons_succ]
  refine wpAnyH_take (i := 3) (oi := _) (v := (.slice (some ⟨g, 0, none⟩) n cap)) rfl (by kernel_rfl) (by kernel_rfl) (by kernel_rfl) (fun _ _ _ h => h) (Or.inl ⟨by rfl, fun w' hw' => by have hc := hw'.1; clear hw'; go_simp⟩) hH ?_
  try simp only [Act.put, List.getElem_toArray, List.getElem_cons_zero, List.getElem_cons_succ, List.setIfInBounds_toArray, List.set_cons_zero, List.set_cons_succ]
  refine wpAnyH_take (i := 4) (oi := _) (v := (.int .i64 (slot : Int))) rfl (by kernel_rfl) (by kernel_rfl) (by kernel_rfl) (fun _ _ _ h => h) (Or.inl ⟨by rfl, fun w' hw' => by go_simp⟩) hH ?_
  try simp only [Act.put, List.getElem_toArray, List.getElem_cons_zero, List.getElem_cons_succ, List.setIfInBounds_toArray, List.set_cons_zero, List.set_cons_succ]
  refine wpAnyH_take (i := 5) (oi := _) (v := (.agg (entC nm ino kd))) rfl (by kernel_rfl) (by kernel_rfl) (by kernel_rfl) (fun _ _ _ h => h) (yieldsIf_load_mid (by rfl) 61 _ rfl w.heap.size 0 rfl (entC nm ino kd).toList _ (fun w' h => ent_range h.2) Tryz.underlying61 rfl infoD3) hH ?_
  try simp only [Act.put, List.getElem_toArray, List.getElem_cons_zero, List.getElem_cons_succ, List.setIfInBounds_toArray, List.set_cons_zero, List.set_cons_succ]
  refine wpAnyH_take (i := 6) (oi := _) (v := (.pointer (some ⟨g, slot * 3, none⟩))) rfl (by kernel_rfl) (by kernel_rfl) (by kernel_rfl) (fun _ _ _ h => h) (Or.inl ⟨by rfl, fun w' hw' => by go_simp⟩) hH ?_
  try simp only [Act.put, List.getElem_toArray, List.getElem_cons_zero, List.getElem_cons_succ, List.setIfInBounds_toArray, List.set_cons_zero, List.set_cons_succ]
  refine wpAnyH_ready (rs := [7]) (by kernel_rfl) (by simp) ?_
  refine AllReadyH.cons (o := _) rfl (fun K hK => ?_) AllReadyH.nil
  rw [if_pos (by rfl)]
  refine wp_store_mid 61 _ _ rfl g (slot * 3) (entC nm ino kd) rfl rfl (there_own (w := World.drew W) HO.out hs) infoD3 entC_one ?_
  refine hK.out _ _ ⟨(World.cell?_of_block (a := ⟨b, 0, none⟩) (setCells_block g _ _ _ b hbg)).trans hH.1, (setCells_block g _ _ _ w.heap.size (by omega)).trans hH.2⟩ (fun hH9 => ?_)
  clear hK K
  try simp only [Act.put, List.getElem_toArray, List.getElem_cons_zero, List.getElem_cons_succ, List.setIfInBounds_toArray, List.set_cons_zero, List.set_cons_succ]
  obtain ⟨w2, hw2⟩ : ∃ w2, w2 = (World.drew W).setCells g (slot * 3) (entC nm ino kd).toList := ⟨_, rfl⟩
  have hblk : ∀ k, k ≠ g → w2.heap[k]? = W.heap[k]? := fun k hk => by rw [hw2]; exact setCells_block g _ _ _ k hk
  have HO2 := hide (show w2.ownsRow base 61 3 (.slice (some ⟨g, 0, none⟩) n cap) n (putE xs slot nm ino kd) from by rw [hw2]; exact own_putE (w := World.drew W) HO.out rfl slot nm ino kd)
  have HB2 := hide (show ∀ B, B ≤ g → B ≤ w.heap.size → Below B w w2 from fun B h1 h2 => by
    rw [hw2]
    exact below_cells h1 _ _ ((HB.out.mono h2).drew))
  have H2 := hide (show w2.cell? ⟨b, 1, none⟩ = some (.map (some mb)) ∧ w2.cell? ⟨w.heap.size, 0, none⟩ = some (.string nm) from ⟨(World.cell?_of_block (a := ⟨b, 1, none⟩) (hblk b hbg)).trans H0.out.2, (World.cell?_of_block (a := ⟨w.heap.size, 0, none⟩) (hblk w.heap.size (by omega))).trans ((K0.out.cell 0).trans rfl)⟩)
  have HM2 := hide (show w2.ownsMap Tryz.prog 9 (plainElem (H := H) Tryz.prog 3) mb nn D from by
    obtain ⟨es, ck, h1, h2⟩ := HM.out
    exact ⟨es, ck, (hblk mb (fun e => hgm e.symm)).trans h1, h2⟩)
  have HBk := hide hblk
  have HSz := hide (show W.heap.size ≤ w2.heap.size from by rw [hw2, setCells_size]; exact Nat.le_refl _)
  rw [← hw2]
  refine wpAnyH_done (by kernel_rfl) (NoPanic.normal ?_) _
  clear hH hH9 hw2 hblk
  go_wp2_with fail
  refine wp_region_noPanic ?_
  refine wp_region_held_drew (S := fun w' => w'.cell? ⟨b, 1, none⟩ = some (.map (some mb)) ∧ w'.cell? ⟨w.heap.size, 0, none⟩ = some (.string nm)) (by kernel_rfl) ⟨H2.out.1, H2.out.2⟩ (fun hH => ?_)
  refine wpAnyH_take (i := 0) (oi := _) (v := (.pointer (some ⟨b, 0, none⟩))) rfl (by kernel_rfl) (by kernel_rfl) (by kernel_rfl) (fun _ _ _ h => h) (Or.inl ⟨by rfl, fun w' hw' => by go_simp⟩) hH ?_
  try simp only [Act.put, List.getElem_toArray, List.getElem_cons_zero, List.getElem_cons_succ, List.setIfInBounds_toArray, List.set_cons_zero, List.set_cons_succ]
  refine wpAnyH_take (i := 1) (oi := _) (v := (.pointer (some ⟨b, 0, none⟩))) rfl (by kernel_rfl) (by kernel_rfl) (by kernel_rfl) (fun _ _ _ h => h) (Or.inl ⟨by rfl, fun w' hw' => by go_simp⟩) hH ?_
  try simp only [Act.put, List.getElem_toArray, List.getElem_cons_zero, List.getElem_cons_succ, List.setIfInBounds_toArray, List.set_cons_zero, List.set_cons_succ]
  refine wpAnyH_take (i := 2) (oi := _) (v := (.pointer (some ⟨b, 1, none⟩))) rfl (by kernel_rfl) (by kernel_rfl) (by kernel_rfl) (fun _ _ _ h => h) (Or.inl ⟨by rfl, fun w' hw' => by go_simp⟩) hH ?_
  try simp only [Act.put, List.getElem_toArray, List.getElem_cons_zero, List.getElem_cons_succ, List.setIfInBounds_toArray, List.set_cons_zero, List.set_cons_succ]
  refine wpAnyH_take (i := 3) (oi := _) (v := (.map (some mb))) rfl (by kernel_rfl) (by kernel_rfl) (by kernel_rfl) (fun _ _ _ h => h) (Or.inl ⟨by rfl, fun w' hw' => by have hc := hw'.1; clear hw'; go_simp⟩) hH ?_
  try simp only [Act.put, List.getElem_toArray, List.getElem_cons_zero, List.getElem_cons_succ, List.setIfInBounds_toArray, List.set_cons_zero, List.set_cons_succ]
  refine wpAnyH_take (i := 4) (oi := _) (v := (.pointer (some ⟨w.heap.size, 0, none⟩))) rfl (by kernel_rfl) (by kernel_rfl) (by kernel_rfl) (fun _ _ _ h => h) (Or.inl ⟨by rfl, fun w' hw' => by go_simp⟩) hH ?_
  try simp only [Act.put, List.getElem_toArray, List.getElem_cons_zero, List.getElem_cons_succ, List.setIfInBounds_toArray, List.set_cons_zero, List.set_cons_succ]
  refine wpAnyH_take (i := 5) (oi := _) (v := (.string nm)) rfl (by kernel_rfl) (by kernel_rfl) (by kernel_rfl) (fun _ _ _ h => h) (Or.inl ⟨by rfl, fun w' hw' => by have hc := hw'.2; clear hw'; go_simp⟩) hH ?_
  try simp only [Act.put, List.getElem_toArray, List.getElem_cons_zero, List.getElem_cons_succ, List.setIfInBounds_toArray, List.set_cons_zero, List.set_cons_succ]
  refine wpAnyH_take (i := 6) (oi := _) (v := (.int .i64 (slot : Int))) rfl (by kernel_rfl) (by kernel_rfl) (by kernel_rfl) (fun _ _ _ h => h) (Or.inl ⟨by rfl, fun w' hw' => by go_simp⟩) hH ?_
  try simp only [Act.put, List.getElem_toArray, List.getElem_cons_zero, List.getElem_cons_succ, List.setIfInBounds_toArray, List.set_cons_zero, List.set_cons_succ]
  refine wpAnyH_ready (rs := [7]) (by kernel_rfl) (by simp) ?_
  refine AllReadyH.cons (o := _) rfl (fun K hK => ?_) AllReadyH.nil
  rw [if_pos (by rfl)]
  refine wp_mapUpdate_ownD (H := H) _ _ _ _ rfl 9 3 (Maps.string_keyed Tryz.underlying9) Tryz.underlying114 _ mb nn D rfl (HM2.out.drew) hnn (.string nm) (.int .i64 slot) (.string nm.data.toList) rfl rfl (WideMaps.keyOf_string_mk Tryz.underlying9 hnm) (.lit (.int .i64 slot)) [] (plainElem_int Tryz.underlying3 HWf.out) ?_
  intro w3 om3 g3
  have HS3 := hide (show w2.heap.size ≤ w3.heap.size from g3.size)
  have H3 := hide (show ∀ k, k < w2.heap.size → k ≠ mb → w3.heap[k]? = w2.heap[k]? from fun k h1 h2 => g3.block k h1 (by simpa using fun e => h2 e))
  have HM3 := hide om3
  have HG3 := hide g3
  have hs2 : W.heap.size ≤ w2.heap.size := HSz.out
  clear om3 g3
  refine hK.out _ _ ⟨(World.cell?_of_block (a := ⟨b, 1, none⟩) (H3.out b (by omega) hbm)).trans hH.1, (World.cell?_of_block (a := ⟨w.heap.size, 0, none⟩) (H3.out w.heap.size (by omega) (by omega))).trans hH.2⟩ (fun hH9 => ?_)
  clear hK K
  try simp only [Act.put, List.getElem_toArray, List.getElem_cons_zero, List.getElem_cons_succ, List.setIfInBounds_toArray, List.set_cons_zero, List.set_cons_succ]
  refine wpAnyH_done (by kernel_rfl) (NoPanic.normal ?_) _
  clear hH hH9
  go_wp2
  go_end0
  refine ⟨rfl, ?_, HM3.out, fun k h1 h2 h3 => ?_, fun B h1 h2 h3 => ?_⟩
  · obtain ⟨l1, l2⟩ := HO2.out
    refine ⟨l1, l2.imp (fun h => h) (fun ⟨g', cp', cur, e, r1, r2, r3⟩ => ⟨g', cp', cur, e, r1, (H3.out g' ?_ ?_).trans r2, r3⟩)⟩
    · exact (Array.getElem?_eq_some_iff.1 r2).1
    · injection e with e1 _ _
      injection e1 with e1
      injection e1 with e1 _
      rw [← e1]
      exact hgm
  · rw [H3.out k (by omega) h3, HBk.out k h2]
    exact HB.out.block k h1
  · exact ((HB2.out B h1 h3).drew).grown HG3.out (show B ≤ w2.heap.size by omega) (fun k e => by cases e; exact h2)
end Go.Proofs.YtplieplmhdfndaaGreatDoor
