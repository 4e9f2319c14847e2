/- Structs and arrays of integers by value: a copy of twelve, a copy of a root. A copy of a root: toRoot. The model's look at a root: l02Pointer, l02Pointers, l02Root. The model's look at a root, whole: l02Root; its bytes: l02RootBytes; EncodeRoot. EncodeWords, the model's and the program's: both give encW. append to an owned row: where it moves, it moves to new memory. The model's EncodeRoot. The model joins byte strings and fills them up: l02Join, l02Fill. -/
import Derived.Test.YtlimollpocagiaaGreatDoorZr01
import Derived.Test.YtlimollpocagiaaGreatDoorRows
import Derived.Test.YtlimollpocagiaaGreatDoorZr03
import Derived.WalkLawsBesides
import Derived.Deep.MidRow
import Derived.Deep.WholeRow
import Derived.Laws.CopyOwn
import Derived.Test.YtlimollpocagiaaGreatDoorZr07
import Derived.Test.YtlimollpocagiaaGreatDoorZr02
import Derived.Test.YtlimollpocagiaaGreatDoorZr06
import Derived.OwnWalk
import Derived.ArgAppend
namespace Go.Proofs.YtlimollpocagiaaGreatDoor
set_option linter.unusedVariables false
set_option linter.unusedSimpArgs false
open Go.RowKit

theorem info12 : (Tryz.prog.info? 26).map (·.size) = some 12 := by kernel_rfl
theorem infoL15 : (Tryz.prog.info? 46).map (·.size) = some 15 := by kernel_rfl
theorem info15 : (Tryz.prog.info? 28).map (·.size) = some 15 := by kernel_rfl

set_option maxRecDepth 100000 in
set_option maxHeartbeats 400000 in
theorem toIntA12_any (ds : List Int) (w : World) (hd : ds.length = 12) :
    Calls Tryz.prog 50 #[.agg (cellsI ds)] w fun e w' => e = .returned (.agg (cellsI ds)) ∧ Below w.heap.size w w' := by
  have HD := hide hd
  clear hd
  go_enter Tryz.func50, Tryz.ntmps50
  go_wp2
  go_loopw [4] (fun i wr => ∃ k : Nat, k ≤ 12 ∧ i = .int .i64 k ∧ Blk wr w.heap.size (cellsI ds) 26 ∧ Blk wr (w.heap.size + 1) (cellsI (List.replicate 12 0)) 26 ∧ Blk wr (w.heap.size + 1 + 1) (cellsI (ds.take k ++ List.replicate (12 - k) 0)) 26 ∧ Below w.heap.size w wr) (fun i _ => 12 - (intOf i).toNat)
  case atStart =>
    refine ⟨0, by omega, rfl, ((Blk.new w _ _).alloc _).alloc _, ?_, ?_, (((Below.refl _ _).alloc (Nat.le_refl _) _).alloc (by simp) _).alloc (by simp; omega) _⟩
    · have h := (Blk.new (w.alloc (.cells (cellsI ds) 26)) (cellsI (List.replicate 12 0)) 26).alloc (.cells (cellsI (List.replicate 12 0)) 26)
      rw [World.size_alloc] at h
      exact h
    · have h := Blk.new ((w.alloc (.cells (cellsI ds) 26)).alloc (.cells (cellsI (List.replicate 12 0)) 26)) (cellsI (List.replicate 12 0)) 26
      rw [World.size_alloc, World.size_alloc] at h
      exact h
  case round =>
    obtain ⟨k, hk, rfl, h1, h2, h3, hb⟩ := hrel
    by_cases hlt : k < 12
    · have c1 := h1.cell k
      rw [cellsI_get ds k (by rw [HD.out]; exact hlt)] at c1
      obtain ⟨old, c3⟩ : ∃ u, wr.cell? ⟨w.heap.size + 1 + 1, k, none⟩ = some u := by
        rw [h3.cell k]
        exact ⟨_, Array.getElem?_eq_getElem (by rw [cellsI_size]; have := HD.out; simp; omega)⟩
      have f3 := h3.frozen k
      have HS := hide (set_cells ds k 12 hlt HD.out)
      generalize ds.getD k 0 = z at c1 HS
      have HW := hide (show Blk (wr.setCell ⟨w.heap.size + 1 + 1, k, none⟩ (.int .i64 z)) w.heap.size (cellsI ds) 26 ∧ Blk (wr.setCell ⟨w.heap.size + 1 + 1, k, none⟩ (.int .i64 z)) (w.heap.size + 1) (cellsI (List.replicate 12 0)) 26 ∧ Blk (wr.setCell ⟨w.heap.size + 1 + 1, k, none⟩ (.int .i64 z)) (w.heap.size + 1 + 1) (cellsI (ds.take (k + 1) ++ List.replicate (12 - (k + 1)) 0)) 26 ∧ Below w.heap.size w (wr.setCell ⟨w.heap.size + 1 + 1, k, none⟩ (.int .i64 z)) from by
        refine ⟨h1.other _ _ (by show _ ≠ w.heap.size + 1 + 1; omega), h2.other _ _ (by show _ ≠ w.heap.size + 1 + 1; omega), ?_, hb.setCell (by show _ ≤ w.heap.size + 1 + 1; omega) _⟩
        rw [← HS.out]
        exact h3.set k _)
      clear h1 h2 h3 hb
      go_wp2
      go_roundw
      case rel => exact ⟨k + 1, by omega, by go_num, HW.out.1, HW.out.2.1, HW.out.2.2.1, HW.out.2.2.2⟩
      case measure => simp [intOf]; omega
    · have hk12 : k = 12 := by omega
      subst hk12
      rw [List.take_of_length_le (by rw [HD.out]; omega), Nat.sub_self, List.replicate_zero, List.append_nil] at h3
      have hsz : (cellsI ds).size = 12 := by rw [cellsI_size]; exact HD.out
      have HB := hide (And.intro h2 (And.intro h3 hb))
      have HZ := hide hsz
      clear h1 h2 h3 hb hsz
      go_wp2_with (first | (refine wpList_load_row rfl 26 _ rfl (w.heap.size + 1 + 1) rfl 26 (cellsI ds) (0, 0) _ HB.out.2.1 Tryz.underlying26 rfl (by rw [HZ.out]; exact info12) ?_) | (refine wpList_store_row rfl 26 _ _ rfl (w.heap.size + 1) (cellsI ds) rfl rfl 26 _ HB.out.1 (by rw [HZ.out]; exact info12) (by rw [HZ.out]; rfl) (cellsI_one ds) ?_))
      refine bodyPost_ret (v := .agg (cellsI ds)) ?_ rfl ⟨rfl, ?_⟩
      · exact results_cell_row rfl _ _ (w.heap.size + 1) 26 (cellsI ds) (0, 0) _ rfl (HB.out.1.row _) Tryz.underlying26 rfl (by rw [HZ.out]; exact info12)
      · exact below_setRow HB.out.2.2 (by omega) _
end Go.Proofs.YtlimollpocagiaaGreatDoor

namespace Go.Proofs.YtlimollpocagiaaGreatDoor
set_option linter.unusedVariables false
set_option linter.unusedSimpArgs false
open Go.RowKit

/-- The fifteen integers of a root. -/
def rootI (s : Int) (ds : List Int) (p q : Int) : List Int := s :: (ds ++ [p, q])
theorem rootI_len (s : Int) (ds : List Int) (p q : Int) (hd : ds.length = 12) : (rootI s ds p q).length = 15 := by simp [rootI, hd]
theorem rootI_get13 (s : Int) (ds : List Int) (p q : Int) (hd : ds.length = 12) : (cellsI (rootI s ds p q))[13]? = some (.int .i64 p) := by
  rw [cellsI_get _ _ (by rw [rootI_len s ds p q hd]; omega)]
  match ds, hd with | [_, _, _, _, _, _, _, _, _, _, _, _], _ => rfl
theorem rootI_get14 (s : Int) (ds : List Int) (p q : Int) (hd : ds.length = 12) : (cellsI (rootI s ds p q))[14]? = some (.int .i64 q) := by
  rw [cellsI_get _ _ (by rw [rootI_len s ds p q hd]; omega)]
  match ds, hd with | [_, _, _, _, _, _, _, _, _, _, _, _], _ => rfl
theorem root_build (s : Int) (ds : List Int) (p q : Int) (hd : ds.length = 12) : ((over (s :: List.replicate 14 0) 1 ds).set 13 p).set 14 q = rootI s ds p q := by
  match ds, hd with | [_, _, _, _, _, _, _, _, _, _, _, _], _ => rfl
theorem root_range (s : Int) (ds : List Int) (p q : Int) (hd : ds.length = 12) : ((rootI s ds p q).drop 1).take 12 = ds := by
  match ds, hd with | [_, _, _, _, _, _, _, _, _, _, _, _], _ => rfl

theorem over_at {w2 : World} {b : Nat} {t : TypeId} (s : Int) (ds : List Int) (hd : ds.length = 12) (h : Blk w2 b (cellsI (over (s :: List.replicate 14 0) 1 ds)) t) (k : Nat) (hk : k < 15) : ∃ u, w2.cell? ⟨b, k, none⟩ = some u := by
  rw [h.cell k]
  exact ⟨_, Array.getElem?_eq_getElem (by rw [cellsI_size, over_len _ _ _ (by simp [hd])]; simpa using hk)⟩

set_option maxRecDepth 100000 in
set_option maxHeartbeats 1000000 in
theorem toRoot_any (s : Int) (ds : List Int) (p q : Int) (w : World) (hd : ds.length = 12) :
    Calls Tryz.prog 17 #[.agg (cellsI (rootI s ds p q))] w fun e w' => e = .returned (.agg (cellsI (rootI s ds p q))) ∧ Below w.heap.size w w' := by
  have HD := hide hd
  have c0 : ∀ o1 o2, (((w.alloc (.cells (cellsI (rootI s ds p q)) 46)).alloc o1).alloc o2).cell? ⟨w.heap.size, 0, none⟩ = some (.int .i64 s) := fun o1 o2 => by
    rw [(((Blk.new w _ _).alloc o1).alloc o2).cell 0]; rfl
  clear hd
  go_enter Tryz.func17, Tryz.ntmps17
  go_wp2_with (first
    | (refine wpList_load_mid rfl 26 _ rfl w.heap.size 1 rfl (ds.map (Value.int .i64)) _ (by have h := (((Blk.new w (cellsI (rootI s ds p q)) 46).alloc (.cells (cellsI (List.replicate 15 0)) 28)).alloc (.cells (cellsI (s :: List.replicate 14 0)) 28)).range 1 12 (by rw [rootI_len _ _ _ _ HD.out]; omega); rw [root_range _ _ _ _ HD.out] at h; exact h) Tryz.underlying26 rfl (by rw [List.length_map, HD.out]; exact info12) ?_)
    | (go_at_call 50; fail))
  refine (toIntA12_any ds _ HD.out).mono ?_
  rintro e w1 ⟨rfl, hb1⟩
  have k0 := (((Blk.new w (cellsI (rootI s ds p q)) 46).alloc (.cells (cellsI (List.replicate 15 0)) 28)).alloc (.cells (cellsI (s :: List.replicate 14 0)) 28)).below hb1 (by simp; omega)
  have k1 : Blk w1 (w.heap.size + 1) (cellsI (List.replicate 15 0)) 28 := by
    have h := ((Blk.new (w.alloc (.cells (cellsI (rootI s ds p q)) 46)) (cellsI (List.replicate 15 0)) 28).alloc (.cells (cellsI (s :: List.replicate 14 0)) 28)).below hb1 (by simp)
    rw [World.size_alloc] at h
    exact h
  have k2 : Blk w1 (w.heap.size + 1 + 1) (cellsI (s :: List.replicate 14 0)) 28 := by
    have h := (Blk.new ((w.alloc (.cells (cellsI (rootI s ds p q)) 46)).alloc (.cells (cellsI (List.replicate 15 0)) 28)) (cellsI (s :: List.replicate 14 0)) 28).below hb1 (by simp)
    rw [World.size_alloc, World.size_alloc] at h
    exact h
  have hB : Below w.heap.size w w1 := ((((Below.refl w.heap.size w).alloc (Nat.le_refl _) (.cells (cellsI (rootI s ds p q)) 46)).alloc (by simp) (.cells (cellsI (List.replicate 15 0)) 28)).alloc (by simp; omega) (.cells (cellsI (s :: List.replicate 14 0)) 28)).trans (hb1.mono (by simp; omega))
  have K := hide (And.intro k0 (And.intro k1 (And.intro k2 hB)))
  clear k0 k1 k2 hB hb1 c0
  have K2 := hide (show Blk (w1.setCells (w.heap.size + 1 + 1) 1 (cellsI ds).toList) w.heap.size (cellsI (rootI s ds p q)) 46 ∧ Blk (w1.setCells (w.heap.size + 1 + 1) 1 (cellsI ds).toList) (w.heap.size + 1) (cellsI (List.replicate 15 0)) 28 ∧ Blk (w1.setCells (w.heap.size + 1 + 1) 1 (cellsI ds).toList) (w.heap.size + 1 + 1) (cellsI (over (s :: List.replicate 14 0) 1 ds)) 28 ∧ Below w.heap.size w (w1.setCells (w.heap.size + 1 + 1) 1 (cellsI ds).toList) from
    ⟨Blk.cells_other _ 1 K.out.1 (by omega), Blk.cells_other _ 1 K.out.2.1 (by omega), Blk.cells ds 1 K.out.2.2.1 (by rw [HD.out]; simp), below_cells (by omega) _ 1 K.out.2.2.2⟩)
  have hz15 : (cellsI (rootI s ds p q)).size = 15 := by rw [cellsI_size]; exact rootI_len s ds p q HD.out
  have HZ := hide hz15
  clear hz15
  go_wp2_with (first | (refine wpList_store_mid rfl 26 _ _ rfl (w.heap.size + 1 + 1) 1 (cellsI ds) rfl rfl (K.out.2.2.1.there 1 _ (by rw [cellsI_size, cellsI_size, HD.out]; simp)) (by rw [cellsI_size, HD.out]; exact info12) (cellsI_one ds) ?_; generalize w1.setCells (w.heap.size + 1 + 1) 1 (cellsI ds).toList = w2 at K2 ⊢; have a13 := (K2.out.1.cell 13).trans (rootI_get13 s ds p q HD.out); have a14 := (K2.out.1.cell 14).trans (rootI_get14 s ds p q HD.out); obtain ⟨u13, b13⟩ := over_at s ds HD.out K2.out.2.2.1 13 (by omega); obtain ⟨u14, b14⟩ := over_at s ds HD.out K2.out.2.2.1 14 (by omega); have f13 := K2.out.2.2.1.frozen 13; have f14 := K2.out.2.2.1.frozen 14) | (refine wpList_load_row rfl 28 _ rfl (w.heap.size + 1 + 1) rfl 28 (cellsI (rootI s ds p q)) (0, 0) _ (by have h := (K2.out.2.2.1.set 13 (.int .i64 p)).set 14 (.int .i64 q); rw [cellsI_set, cellsI_set, root_build _ _ _ _ HD.out] at h; exact h) Tryz.underlying28 rfl (by rw [HZ.out]; exact info15) ?_) | (refine wpList_store_row rfl 28 _ _ rfl (w.heap.size + 1) (cellsI (rootI s ds p q)) rfl rfl 28 _ ((K2.out.2.1.other ⟨w.heap.size + 1 + 1, 13, none⟩ (.int .i64 p) (by show w.heap.size + 1 ≠ w.heap.size + 1 + 1; omega)).other ⟨w.heap.size + 1 + 1, 14, none⟩ (.int .i64 q) (by show w.heap.size + 1 ≠ w.heap.size + 1 + 1; omega)) (by rw [HZ.out]; exact info15) (by rw [HZ.out]; rfl) (cellsI_one _) ?_))
  have K3 := (K2.out.2.1.other ⟨w.heap.size + 1 + 1, 13, none⟩ (.int .i64 p) (by show w.heap.size + 1 ≠ w.heap.size + 1 + 1; omega)).other ⟨w.heap.size + 1 + 1, 14, none⟩ (.int .i64 q) (by show w.heap.size + 1 ≠ w.heap.size + 1 + 1; omega)
  refine bodyPost_ret (v := .agg (cellsI (rootI s ds p q))) ?_ rfl ⟨rfl, ?_⟩
  · exact results_cell_row rfl _ _ (w.heap.size + 1) 28 (cellsI (rootI s ds p q)) (0, 0) _ rfl (K3.row _) Tryz.underlying28 rfl (by rw [HZ.out]; exact info15)
  · exact below_setRow ((K2.out.2.2.2.setCell (p := ⟨w.heap.size + 1 + 1, 13, none⟩) (by show _ ≤ w.heap.size + 1 + 1; omega) _).setCell (p := ⟨w.heap.size + 1 + 1, 14, none⟩) (by show _ ≤ w.heap.size + 1 + 1; omega) _) (by omega) _
end Go.Proofs.YtlimollpocagiaaGreatDoor

namespace Go.Proofs.YtlimollpocagiaaGreatDoor
set_option linter.unusedVariables false
set_option linter.unusedSimpArgs false
open Go.RowKit

def ptrB (x n : Int) : Bool := decide (x = 0) || (decide (2 ≤ x) && decide (x < n))
theorem pointer_any (x : Int) (w : World) : Calls Tryz.prog 76 #[.int .i64 x] w fun e w' => e = .returned (.bool (ptrB x 2048)) ∧ w = w' := by
  have HP := hide (show ptrB x 2048 = (decide (x = 0) || (decide (2 ≤ x) && decide (x < 2048))) from rfl)
  by_cases h0 : x = 0
  · subst h0
    go_enter Tryz.func76, Tryz.ntmps76
    go_wp2
    go_ret
    exact ⟨rfl, rfl⟩
  · have hq : (x == 0) = false := by simp [h0]
    have HD := hide (show decide (x = 0) = false from by simp [h0])
    clear h0
    by_cases h2 : 2 ≤ x
    · by_cases h3 : x < 2048
      all_goals
        have HR := hide (show ptrB x 2048 = decide (x < 2048) from by rw [HP.out, HD.out]; simp [h2])
        go_enter Tryz.func76, Tryz.ntmps76
        go_wp2
        go_ret
        exact ⟨ret_bool (by rw [HR.out]; simp; try omega), rfl⟩
    · have hq2 : decide (2 ≤ x) = false := by simp; omega
      have HR := hide (show ptrB x 2048 = false from by rw [HP.out, HD.out, hq2]; rfl)
      go_enter Tryz.func76, Tryz.ntmps76
      go_wp2
      go_ret
      exact ⟨ret_bool (by rw [HR.out]), rfl⟩

set_option maxRecDepth 100000 in
set_option maxHeartbeats 1000000 in
theorem pointers_any (s : Int) (ds : List Int) (p q : Int) (w : World) (hd : ds.length = 12) :
    Calls Tryz.prog 75 #[.agg (cellsI (rootI s ds p q))] w fun e w' => ∃ v', e = .returned v' ∧ w'.ownsRow w.heap.size 3 1 v' 14 ((ds ++ [p, q]).map (Value.int .i64)) ∧ Below w.heap.size w w' := by
  obtain ⟨i0, hi, hz0, hz1, hz2⟩ := info_parts infoI64
  have HD := hide hd
  have kB := Blk.new w (cellsI (rootI s ds p q)) 28
  have h0 := own_empty (w.alloc (.cells (cellsI (rootI s ds p q)) 28)) 3
  rw [World.size_alloc] at h0
  have hr : ∀ j u, (ds.map (Value.int .i64))[j]? = some u → ((w.alloc (.cells (cellsI (rootI s ds p q)) 28)).alloc (.cells #[] 3)).cell? ((⟨w.heap.size, 1, none⟩ : Addr).add j) = some u := by
    intro j u hu
    have h := (kB.alloc (.cells #[] 3)).range 1 12 (by rw [rootI_len _ _ _ _ HD.out]; omega)
    rw [root_range _ _ _ _ HD.out] at h
    rw [Addr.add_mid]
    exact h j u hu
  have hb0 : Below w.heap.size w ((w.alloc (.cells (cellsI (rootI s ds p q)) 28)).alloc (.cells #[] 3)) := ((Below.refl _ _).alloc (Nat.le_refl _) _).alloc (by simp) _
  have K := hide (And.intro h0 (And.intro hr (And.intro hb0 (kB.alloc (.cells #[] 3)))))
  clear hd h0 hr hb0 kB
  go_enter Tryz.func75, Tryz.ntmps75
  go_wp2_with (first | (at_builtin; refine wpList_append_own _ rfl (.tmp 4) (.tmp 6) 29 rfl (w.heap.size + 1) 3 i0 (.int .i64 0) 1 8 Tryz.underlying29 hi hz0 hz1 hz2 rfl (by decide) (.slice (some ⟨w.heap.size + 1, 0, none⟩) 0 0) 0 [] rfl K.out.1 ⟨w.heap.size, 1, none⟩ 12 12 (ds.map (Value.int .i64)) rfl (by rw [List.length_map, HD.out]) K.out.2.1 (ints_oneCell _ _) (by unfold maxLen; omega) (by omega) (by simp) ?_; intro v1 w1 hown1 hgr1 _; have a13 := hgr1.cell (a := ⟨w.heap.size, 13, none⟩) ((K.out.2.2.2.cell 13).trans (rootI_get13 s ds p q HD.out)) (by simp [Value.ownBlock]); have a14 := hgr1.cell (a := ⟨w.heap.size, 14, none⟩) ((K.out.2.2.2.cell 14).trans (rootI_get14 s ds p q HD.out)) (by simp [Value.ownBlock]); have H1 := hide (And.intro hown1 hgr1); clear hown1 hgr1) | (at_builtin; refine wpList_append_own _ rfl (.tmp 8) (.tmp 13) 29 rfl (w.heap.size + 1) 3 i0 (.int .i64 0) 1 8 Tryz.underlying29 hi hz0 hz1 hz2 rfl (by decide) v1 _ _ rfl (H1.out.1.alloc _) ⟨w1.heap.size, 0, none⟩ 2 2 [.int .i64 p, .int .i64 q] rfl rfl (cell_two_new _ _ _ _) (ints_oneCell .i64 [p, q]) (by unfold maxLen; omega) (by omega) (by have := H1.out.2.size; simp at this ⊢; omega) ?_; intro v2 w2 hown2 hgr2 _))
  go_ret
  refine ⟨_, rfl, own_mono (base := w.heap.size + 1) ?_ (by omega), ?_⟩
  · have e : (ds ++ [p, q]).map (Value.int .i64) = [] ++ ds.map (Value.int .i64) ++ [.int .i64 p, .int .i64 q] := by simp
    rw [e]
    exact hown2
  · have hs1 := H1.out.2.size
    have hl1 := H1.out.1.lt
    refine (((K.out.2.2.1.grown H1.out.2 (by simp; omega) (fun k h => by simp [Value.ownBlock] at h; omega)).alloc (by simp at hs1; omega) _).grown hgr2 (by simp at hs1 ⊢; omega) (fun k h => by have := (hl1 k h).1; omega))
end Go.Proofs.YtlimollpocagiaaGreatDoor

namespace Go.Proofs.YtlimollpocagiaaGreatDoor
set_option linter.unusedVariables false
set_option linter.unusedSimpArgs false
open Go.RowKit

def lst (i : Nat) : Int := if i = 13 then 140 else i
def okAt (B : Int) (i : Nat) (x : Int) : Bool := ptrB x 2048 && (decide (x = 0) || decide (lst i < B))
def allR (s : Int) (pts : List Int) (n : Nat) : Bool := (List.range n).all fun i => okAt ((s + 511) / 512) i (pts.getD i 0)
def rightR (s : Int) (ds : List Int) (p q : Int) : Bool := (decide (0 ≤ s) && decide (s ≤ 262144)) && allR s (ds ++ [p, q]) 14
theorem allR_succ (s : Int) (pts : List Int) (n : Nat) : allR s pts (n + 1) = (allR s pts n && okAt ((s + 511) / 512) n (pts.getD n 0)) := by simp [allR, List.range_succ]
theorem allR_bad (s : Int) (pts : List Int) (n k : Nat) (hk : k < n) (h : okAt ((s + 511) / 512) k (pts.getD k 0) = false) : allR s pts n = false := by
  unfold allR
  rw [List.all_eq_false]
  exact ⟨k, by simpa using hk, by rw [h]; simp⟩

theorem okT (s : Int) (k : Nat) (z L : Int) (hp : ptrB z 2048 = true) (hL : lst k = L) (h : (z != 0) = false ∨ L < (s + 512 - 1) / 512) : okAt ((s + 511) / 512) k z = true := by
  unfold okAt
  rw [hp, hL]
  have e : s + 512 - 1 = s + 511 := by omega
  rw [e] at h
  rcases h with h | h
  · simp at h; simp [h]
  · simp [h]
theorem okT0 (s : Int) (k : Nat) (z : Int) (hp : ptrB z 2048 = true) (h : z = 0) : okAt ((s + 511) / 512) k z = true := by
  unfold okAt
  rw [hp]
  simp [h]
theorem okF (s : Int) (k : Nat) (z L : Int) (hL : lst k = L) (h : (z != 0) = true ∧ (s + 512 - 1) / 512 ≤ L) : okAt ((s + 511) / 512) k z = false := by
  unfold okAt
  have e : s + 512 - 1 = s + 511 := by omega
  rw [e] at h
  rw [hL]
  have h1 : ¬ z = 0 := by simpa using h.1
  have h2 : ¬ L < (s + 511) / 512 := by omega
  simp [h1, h2]
theorem lst_cases (k : Nat) : (((k : Int) == 12) = true ∧ ((k : Int) == 13) = false ∧ lst k = 12) ∨ (((k : Int) == 12) = false ∧ ((k : Int) == 13) = true ∧ lst k = 140) ∨ (((k : Int) == 12) = false ∧ ((k : Int) == 13) = false ∧ lst k = (k : Int)) := by
  by_cases h12 : k = 12
  · subst h12; exact .inl ⟨rfl, rfl, rfl⟩
  · by_cases h13 : k = 13
    · subst h13; exact .inr (.inl ⟨rfl, rfl, rfl⟩)
    · refine .inr (.inr ⟨by simp; omega, by simp; omega, ?_⟩)
      unfold lst
      rw [if_neg h13]

set_option maxRecDepth 100000 in
set_option maxHeartbeats 2000000 in
theorem l02Root_any (s : Int) (ds : List Int) (p q : Int) (w : World) (hd : ds.length = 12) :
    Calls Tryz.prog 32 #[.agg (cellsI (rootI s ds p q))] w fun e w' => e = .returned (.bool (rightR s ds p q)) ∧ Below w.heap.size w w' := by
  have HD := hide hd
  have hb0 : Below w.heap.size w (w.alloc (.cells (cellsI (rootI s ds p q)) 28)) := (Below.refl _ _).alloc (Nat.le_refl _) _
  have c0 : (w.alloc (.cells (cellsI (rootI s ds p q)) 28)).cell? ⟨w.heap.size, 0, none⟩ = some (.int .i64 s) := by
    rw [(Blk.new w _ _).cell 0]; rfl
  have HZ := hide (show (cellsI (rootI s ds p q)).size = 15 from by rw [cellsI_size]; exact rootI_len s ds p q HD.out)
  clear hd
  by_cases h1 : 0 ≤ s
  · by_cases h2 : s ≤ 262144
    · have HR := hide (show rightR s ds p q = allR s (ds ++ [p, q]) 14 from by unfold rightR; simp [h1, h2])
      have HL := hide (show (ds ++ [p, q]).length = 14 from by simp [HD.out])
      go_enter Tryz.func32, Tryz.ntmps32
      go_wp2_with (first | (refine wpList_load_row rfl 28 _ rfl w.heap.size rfl 28 (cellsI (rootI s ds p q)) (0, 0) _ (Blk.new w _ _) Tryz.underlying28 rfl (by rw [HZ.out]; exact info15) ?_) | (go_at_call 75; fail))
      refine (pointers_any s ds p q _ HD.out).mono ?_
      rintro e w1 ⟨v1, rfl, o1, b1⟩
      obtain ⟨bd, off, cap, rfl, hbw, _, _, hcell⟩ := (Rd.own o1).partsC (by rw [HL.out]; omega)
      rw [HL.out] at hcell ⊢
      have HB := hide (hb0.trans (b1.mono hb0.size))
      generalize ds ++ [p, q] = pts at hcell HR
      clear o1 b1 hb0 c0
      go_wp2
      go_loop [23] (fun i => ∃ k : Nat, k ≤ 14 ∧ i = .int .i64 k ∧ allR s pts k = true) (fun i => 14 - (intOf i).toNat)
      case atStart => exact ⟨0, by omega, rfl, rfl⟩
      case round =>
        obtain ⟨k, hk, rfl, hall⟩ := hrel
        have HA := hide hall
        clear hall
        by_cases hlt : k < 14
        · have cz := hcell k hlt
          have HS := hide (show allR s pts (k + 1) = (allR s pts k && okAt ((s + 511) / 512) k (pts.getD k 0)) ∧ (okAt ((s + 511) / 512) k (pts.getD k 0) = false → allR s pts 14 = false) from ⟨allR_succ s pts k, allR_bad s pts 14 k hlt⟩)
          clear hcell
          generalize pts.getD k 0 = z at cz HS
          have hok : okAt ((s + 511) / 512) k z = (ptrB z 2048 && (decide (z = 0) || decide (lst k < (s + 511) / 512))) := rfl
          cases hpt : ptrB z 2048 with
          | false =>
            have HF := hide (HS.out.2 (by rw [hok, hpt]; rfl))
            clear hok
            go_wp2_with (go_at_call 76; refine (pointer_any z _).mono ?_; rintro e w' ⟨rfl, rfl⟩; rw [hpt])
            all_goals go_ret
            all_goals exact ⟨ret_bool (by rw [HR.out, HF.out]), HB.out⟩
          | true =>
            have HP := hide hpt
            clear hok
            rcases lst_cases k with ⟨e12, e13, hL⟩ | ⟨e12, e13, hL⟩ | ⟨e12, e13, hL⟩
            all_goals
              have HLk := hide hL
              clear hL
              go_wp2_with (go_at_call 76; refine (pointer_any z _).mono ?_; rintro e w' ⟨rfl, rfl⟩; rw [hpt])
              all_goals first
                | (have HF := HS.out.2 (okF s k z _ HLk.out ‹_›)
                   go_ret
                   exact ⟨ret_bool (by rw [HR.out, HF]), HB.out⟩)
                | (have hT : okAt ((s + 511) / 512) k z = true := by first | exact okT0 s k z HP.out ‹_› | exact okT s k z _ HP.out HLk.out ‹_›
                   go_round
                   case rel => exact ⟨k + 1, by omega, by go_num, by rw [HS.out.1, HA.out, hT]; rfl⟩
                   case measure => simp [intOf]; omega)
        · have e14 : k = 14 := by omega
          subst e14
          go_wp2
          go_ret
          exact ⟨ret_bool (by rw [HR.out, HA.out]), HB.out⟩
    · have HR := hide (show rightR s ds p q = false from by unfold rightR; simp [h2])
      go_enter Tryz.func32, Tryz.ntmps32
      go_wp2
      go_ret
      exact ⟨ret_bool (by rw [HR.out]), hb0⟩
  · have HR := hide (show rightR s ds p q = false from by unfold rightR; simp [h1])
    go_enter Tryz.func32, Tryz.ntmps32
    go_wp2
    go_ret
    exact ⟨ret_bool (by rw [HR.out]), hb0⟩
end Go.Proofs.YtlimollpocagiaaGreatDoor

namespace Go.Proofs.YtlimollpocagiaaGreatDoor
open Go.RowKit

def okW (v : Int) : Bool := decide (0 ≤ v) && decide (v ≤ 4294967295)
def bytesW (ws : List Int) : List Int := ws.flatMap fun v => le 4 v.toNat
def goodW (ws : List Int) : Bool := decide (ws.length = 128) && ws.all okW
def encW (ws : List Int) : List Int := if goodW ws = true then bytesW ws else []
def codeW (ws : List Int) : Int := if goodW ws = true then 0 else 7

theorem bytesW_len (ws : List Int) : (bytesW ws).length = 4 * ws.length := by
  unfold bytesW
  induction ws with
  | nil => rfl
  | cons v ws ih => rw [List.flatMap_cons, List.length_append, ih, le_len, List.length_cons]; omega
theorem bytesW_take (ws : List Int) (k : Nat) (h : k < ws.length) : bytesW (ws.take (k + 1)) = bytesW (ws.take k) ++ le 4 (ws.getD k 0).toNat := by
  unfold bytesW
  rw [List.take_succ_eq_append_getElem h, List.flatMap_append]
  simp [List.getD, h]
theorem all_take (ws : List Int) (k : Nat) (h : k < ws.length) : (ws.take (k + 1)).all okW = ((ws.take k).all okW && okW (ws.getD k 0)) := by
  rw [List.take_succ_eq_append_getElem h, List.all_append]
  simp [List.getD, h]
end Go.Proofs.YtlimollpocagiaaGreatDoor

namespace Go.Proofs.YtlimollpocagiaaGreatDoor
open Go.RowKit

theorem append_fresh {P : Program} (w : World) {ops : Array Oper} {rest : List Oper} {o : Oper} {a : Act} {Q : Exit → Act → World → Prop}
    (hg : o.guard = none) (s x : Operand) (t : TypeId) (hop : o.op = Op.call { callee := Callee.builtin Builtin.append, args := #[s, x], argTypes := #[t, t] })
    (base : Nat) (e : TypeId) (i : TypeInfo) (z : Value) (size bytes : Nat) (h1 : P.underlying t = some (.slice e)) (h2 : P.info? e = some i) (h3 : i.zero = some z) (h4 : i.size = size) (h5 : i.bytes = bytes) (h6 : z.cells.size = size) (h7 : 0 < size)
    (v : Value) (n : Nat) (xs : List Value) (hs : a.eval s = v) (hown : w.ownsRow base e size v n xs)
    (ad : Addr) (m c : Nat) (news : List Value) (hx : a.eval x = .slice (some ad) m c) (hn : news.length = m * size) (hc : ∀ j u, news[j]? = some u → w.cell? (ad.add j) = some u) (h1c : ∀ u ∈ news, u.oneCell' = true)
    (hm : 0 < m) (b1 : n + m ≤ maxLen) (b2 : (n + m) * bytes ≤ 140737488355328) (b3 : base ≤ w.heap.size)
    (hK : ∀ v' w', w'.ownsRow base e size v' (n + m) (xs ++ news) → w.grownBy w' v.ownBlock → (∀ k, v'.ownBlock = some k → v.ownBlock = some k ∨ w.heap.size ≤ k) → wpList P ops Q rest (a.put o.dst v') w') :
    wpList P ops Q (o :: rest) a w := by
  have weak : ∀ w', w.grownBy w' none → ∀ r, w.grownBy w' r := fun w' h r => ⟨h.os, h.tape, h.output, h.size, fun k hk _ => h.block k hk (by simp)⟩
  rcases hown.2 with ⟨rfl, rfl⟩ | ⟨g, cap, cur, rfl, hb, hgr, hnc, hcm, hcs, htake⟩
  · have hx0 : xs = [] := List.eq_nil_of_length_eq_zero (by simpa using hown.1)
    subst hx0
    refine wpList_append_grows w hg s x t hop e i z size bytes h1 h2 h3 h4 h5 h6 h7 none 0 0 [] hs (fun _ => ⟨rfl, rfl⟩) (by simp) (fun b h => by cases h) ad m c news hx hn hc h1c (by omega) b1 b2 ?_
    intro v' w' r1 r2
    exact hK v' w' (own_mono r1 b3) (weak w' r2 _) (fun k hk => .inr (r1.lt k hk).1)
  · by_cases hroom : n + m ≤ cap
    · refine wpList_append_fits w hg s x t hop base e i size h1 h2 h4 g n cap xs hs hown ad m c news hx hn hc h1c hroom ?_
      intro w' r1 r2
      exact hK _ w' r1 r2 (fun k hk => .inl hk)
    · refine wpList_append_grows w hg s x t hop e i z size bytes h1 h2 h3 h4 h5 h6 h7 (some ⟨g, 0, none⟩) n cap xs hs (fun h => by cases h) hown.1 (fun b h j u hj => by cases h; exact hown.cells (g := g) rfl j u hj) ad m c news hx hn hc h1c (by omega) b1 b2 ?_
      intro v' w' r1 r2
      exact hK v' w' (own_mono r1 b3) (weak w' r2 _) (fun k hk => .inr (r1.lt k hk).1)
end Go.Proofs.YtlimollpocagiaaGreatDoor

namespace Go.Proofs.YtlimollpocagiaaGreatDoor
set_option linter.unusedVariables false
set_option linter.unusedSimpArgs false
open Go.RowKit

end Go.Proofs.YtlimollpocagiaaGreatDoor

namespace Go.Proofs.YtlimollpocagiaaGreatDoor
set_option linter.unusedVariables false
set_option linter.unusedSimpArgs false
open Go.RowKit

/-- Slices that read as byte strings, one by one. -/
def AllRd (w : World) : List Value → List (List Int) → Prop
  | [], [] => True
  | v :: vs, b :: bs => Rd .u8 w v b ∧ AllRd w vs bs
  | _, _ => False
theorem AllRd.below {w w' : World} (hb : Below w.heap.size w w') : ∀ {vs : List Value} {bs : List (List Int)}, AllRd w vs bs → AllRd w' vs bs
  | [], [], _ => trivial
  | _ :: _, _ :: _, h => ⟨h.1.below hb, AllRd.below hb h.2⟩
  | [], _ :: _, h => h.elim
  | _ :: _, [], h => h.elim
theorem AllRd.snoc {w : World} {v : Value} {b : List Int} (hv : Rd .u8 w v b) : ∀ {vs : List Value} {bs : List (List Int)}, AllRd w vs bs → AllRd w (vs ++ [v]) (bs ++ [b])
  | [], [], _ => ⟨hv, trivial⟩
  | _ :: _, _ :: _, h => ⟨h.1, AllRd.snoc hv h.2⟩
  | [], _ :: _, h => h.elim
  | _ :: _, [], h => h.elim
theorem AllRd.next {w w' : World} {base : Nat} {e : TypeId} {n : Nat} {v : Value} {b : List Int} {vs : List Value} {bs : List (List Int)} (h : AllRd w vs bs) (ho : w'.ownsRow base e 1 v n (b.map (Value.int .u8))) (hb : Below w.heap.size w w') : AllRd w' (vs ++ [v]) (bs ++ [b]) :=
  (h.below hb).snoc (Rd.own ho)
theorem AllRd.len {w : World} : ∀ {vs : List Value} {bs : List (List Int)}, AllRd w vs bs → vs.length = bs.length
  | [], [], _ => rfl
  | _ :: _, _ :: _, h => by simp [AllRd.len h.2]
  | [], _ :: _, h => h.elim
  | _ :: _, [], h => h.elim
theorem AllRd.at {w : World} : ∀ {vs : List Value} {bs : List (List Int)} (k : Nat), AllRd w vs bs → k < bs.length → ∃ v, vs[k]? = some v ∧ Rd .u8 w v (bs.getD k [])
  | v :: vs, b :: bs, 0, h, _ => ⟨v, rfl, h.1⟩
  | v :: vs, b :: bs, k + 1, h, hk => by
    obtain ⟨u, h1, h2⟩ := AllRd.at k h.2 (by simpa using hk)
    exact ⟨u, by simpa using h1, by simpa using h2⟩
  | [], [], k, _, hk => by simp at hk
  | [], _ :: _, _, h, _ => h.elim
  | _ :: _, [], _, h, _ => h.elim
end Go.Proofs.YtlimollpocagiaaGreatDoor
