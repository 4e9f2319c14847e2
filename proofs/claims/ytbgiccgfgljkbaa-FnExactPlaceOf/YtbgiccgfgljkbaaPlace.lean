/- Where a data block hangs: PlaceOf of the program and of the model. -/
import Derived.Test.YtbgiccgfgljkbaaBase
import Derived.Test.YtbgiccgfgljkbaaRows
import Derived.WalkLawsBesides
import Derived.Laws.ResultCell
import Derived.Deep.WholeRow

namespace Go.Proofs.Ytbgiccgfgljkbaa
set_option linter.unusedVariables false
set_option linter.unusedSimpArgs false
open Go.RowKit

theorem results_row_tmp {P : Program} {fn : Func} {p u : Tmp} {ty : TypeId} (h : fn.results = #[.cell p ty, .tmp u]) (tmps : Array Value) (w : World) (g : Nat) (t : TypeId) (cs : Array Value) (fr : Nat × Nat) (d : TypeDesc) (x : Value)
    (hp : tmps.getD p undef = .pointer (some ⟨g, 0, none⟩)) (hx : tmps.getD u undef = x) (hg : w.heap[g]? = some (.cells cs t fr))
    (hu : P.underlying ty = some d) (hd : (match d with | .struct _ | .array _ _ => true | _ => false) = true) (hi : (P.info? ty).map (·.size) = some cs.size) :
    (results fn tmps).run P w = .ok (.tuple #[.agg cs, x]) w := by
  rw [results_cell_tmp h, hp, hx]
  simp [asAddr, run_loadVar_row w g t ty cs fr d hg hu hd hi, Result.andThen]

theorem infoP3 : (Try.prog.info? 27).map (·.size) = some 3 := by kernel_rfl

def placeV (l o i c : Int) : Value := .tuple #[.agg #[.int .i64 l, .int .i64 o, .int .i64 i], .int .i64 c]

set_option maxRecDepth 100000 in
set_option maxHeartbeats 400000 in
theorem implP_out (x : Int) (w : World) (h : x < 0 ∨ 512 ≤ x) :
    Calls Try.prog 13 #[.int .i64 x] w fun e w' => e = .returned (placeV 0 0 0 19) ∧ Below w.heap.size w w' := by
  have HB := hide (show ∀ C, Below w.heap.size w (w.alloc C) from fun C => (Below.refl _ _).alloc (Nat.le_refl _) _)
  by_cases h1 : x < 0
  · clear h
    go_enter Try.func13, Try.ntmps13
    go_wp2
    refine bodyPost_ret (v := placeV 0 0 0 19) ?_ rfl ⟨rfl, HB.out _⟩
    exact results_row_tmp rfl _ _ w.heap.size 27 _ (0, 0) _ _ rfl rfl (heap_alloc_new w _) Try.underlying27 rfl infoP3
  · have h2 : 512 ≤ x := by omega
    clear h
    go_enter Try.func13, Try.ntmps13
    go_wp2
    refine bodyPost_ret (v := placeV 0 0 0 19) ?_ rfl ⟨rfl, HB.out _⟩
    exact results_row_tmp rfl _ _ w.heap.size 27 _ (0, 0) _ _ rfl rfl (heap_alloc_new w _) Try.underlying27 rfl infoP3
set_option maxRecDepth 100000 in
set_option maxHeartbeats 400000 in
theorem implP_0 (x : Nat) (w : World) (h : x < 12) :
    Calls Try.prog 13 #[.int .i64 x] w fun e w' => e = .returned (placeV 0 0 x 0) ∧ Below w.heap.size w w' := by
  have HB := hide (show ∀ C, Below w.heap.size w (w.alloc C) from fun C => (Below.refl _ _).alloc (Nat.le_refl _) _)
  go_enter Try.func13, Try.ntmps13
  go_wp2
  refine bodyPost_ret (v := placeV 0 0 x 0) ?_ rfl ⟨rfl, HB.out _⟩
  exact results_row_tmp rfl _ _ w.heap.size 27 _ (0, 0) _ _ rfl rfl (heap_alloc_new w _) Try.underlying27 rfl infoP3
set_option maxRecDepth 100000 in
set_option maxHeartbeats 400000 in
theorem implP_1 (x : Nat) (w : World) (h : x < 128) :
    Calls Try.prog 13 #[.int .i64 ((x + 12 : Nat) : Int)] w fun e w' => e = .returned (placeV 1 0 x 0) ∧ Below w.heap.size w w' := by
  have HB := hide (show ∀ C, Below w.heap.size w (w.alloc C) from fun C => (Below.refl _ _).alloc (Nat.le_refl _) _)
  go_enter Try.func13, Try.ntmps13
  go_wp2
  refine bodyPost_ret (v := placeV 1 0 x 0) ?_ rfl ⟨rfl, HB.out _⟩
  exact results_row_tmp rfl _ _ w.heap.size 27 _ (0, 0) _ _ rfl rfl (heap_alloc_new w _) Try.underlying27 rfl infoP3
set_option maxRecDepth 100000 in
set_option maxHeartbeats 400000 in
theorem implP_2 (x : Nat) (w : World) (h : x < 372) :
    Calls Try.prog 13 #[.int .i64 ((x + 140 : Nat) : Int)] w fun e w' => e = .returned (placeV 2 ((x / 128 : Nat) : Int) ((x % 128 : Nat) : Int) 0) ∧ Below w.heap.size w w' := by
  have HB := hide (show ∀ C, Below w.heap.size w (w.alloc C) from fun C => (Below.refl _ _).alloc (Nat.le_refl _) _)
  go_enter Try.func13, Try.ntmps13
  go_wp2
  have e1 : ((x : Int) + 140 - 12 - 128) / 128 = ((x / 128 : Nat) : Int) := by omega
  have e2 : ((x : Int) + 140 - 12) % 128 = ((x % 128 : Nat) : Int) := by omega
  rw [e1, e2]
  refine bodyPost_ret (v := placeV 2 ((x / 128 : Nat) : Int) ((x % 128 : Nat) : Int) 0) ?_ rfl ⟨rfl, HB.out _⟩
  exact results_row_tmp rfl _ _ w.heap.size 27 _ (0, 0) _ _ rfl rfl (heap_alloc_new w _) Try.underlying27 rfl infoP3
set_option maxRecDepth 100000 in
set_option maxHeartbeats 400000 in
theorem specP_out (x : Int) (w : World) (h : x < 0 ∨ 512 ≤ x) :
    Calls Try.prog 12 #[.int .i64 x] w fun e w' => e = .returned (placeV 0 0 0 19) ∧ Below w.heap.size w w' := by
  have HB := hide (show ∀ C, Below w.heap.size w (w.alloc C) from fun C => (Below.refl _ _).alloc (Nat.le_refl _) _)
  by_cases h1 : x < 0
  · clear h
    go_enter Try.func12, Try.ntmps12
    go_wp2
    refine bodyPost_ret (v := placeV 0 0 0 19) ?_ rfl ⟨rfl, HB.out _⟩
    exact results_row_tmp rfl _ _ w.heap.size 27 _ (0, 0) _ _ rfl rfl (heap_alloc_new w _) Try.underlying27 rfl infoP3
  · have h2 : 512 ≤ x := by omega
    clear h
    go_enter Try.func12, Try.ntmps12
    go_wp2
    refine bodyPost_ret (v := placeV 0 0 0 19) ?_ rfl ⟨rfl, HB.out _⟩
    exact results_row_tmp rfl _ _ w.heap.size 27 _ (0, 0) _ _ rfl rfl (heap_alloc_new w _) Try.underlying27 rfl infoP3
set_option maxRecDepth 100000 in
set_option maxHeartbeats 400000 in
theorem specP_0 (x : Nat) (w : World) (h : x < 12) :
    Calls Try.prog 12 #[.int .i64 x] w fun e w' => e = .returned (placeV 0 0 x 0) ∧ Below w.heap.size w w' := by
  have HB := hide (show ∀ C, Below w.heap.size w (w.alloc C) from fun C => (Below.refl _ _).alloc (Nat.le_refl _) _)
  go_enter Try.func12, Try.ntmps12
  go_wp2
  refine bodyPost_ret (v := placeV 0 0 x 0) ?_ rfl ⟨rfl, HB.out _⟩
  exact results_row_tmp rfl _ _ w.heap.size 27 _ (0, 0) _ _ rfl rfl (heap_alloc_new w _) Try.underlying27 rfl infoP3
set_option maxRecDepth 100000 in
set_option maxHeartbeats 400000 in
theorem specP_1 (x : Nat) (w : World) (h : x < 128) :
    Calls Try.prog 12 #[.int .i64 ((x + 12 : Nat) : Int)] w fun e w' => e = .returned (placeV 1 0 x 0) ∧ Below w.heap.size w w' := by
  have HB := hide (show ∀ C, Below w.heap.size w (w.alloc C) from fun C => (Below.refl _ _).alloc (Nat.le_refl _) _)
  go_enter Try.func12, Try.ntmps12
  go_wp2
  refine bodyPost_ret (v := placeV 1 0 x 0) ?_ rfl ⟨rfl, HB.out _⟩
  exact results_row_tmp rfl _ _ w.heap.size 27 _ (0, 0) _ _ rfl rfl (heap_alloc_new w _) Try.underlying27 rfl infoP3
set_option maxRecDepth 100000 in
set_option maxHeartbeats 400000 in
theorem specP_2 (x : Nat) (w : World) (h : x < 372) :
    Calls Try.prog 12 #[.int .i64 ((x + 140 : Nat) : Int)] w fun e w' => e = .returned (placeV 2 ((x / 128 : Nat) : Int) ((x % 128 : Nat) : Int) 0) ∧ Below w.heap.size w w' := by
  have HB := hide (show ∀ C, Below w.heap.size w (w.alloc C) from fun C => (Below.refl _ _).alloc (Nat.le_refl _) _)
  go_enter Try.func12, Try.ntmps12
  go_wp2
  have e1 : (x : Int) / 128 = ((x / 128 : Nat) : Int) := by omega
  have e2 : (x : Int) % 128 = ((x % 128 : Nat) : Int) := by omega
  rw [e1, e2]
  refine bodyPost_ret (v := placeV 2 ((x / 128 : Nat) : Int) ((x % 128 : Nat) : Int) 0) ?_ rfl ⟨rfl, HB.out _⟩
  exact results_row_tmp rfl _ _ w.heap.size 27 _ (0, 0) _ _ rfl rfl (heap_alloc_new w _) Try.underlying27 rfl infoP3

/-- Both answer the same. -/
theorem bothP (x : Int) : ∃ l o i c, (∀ w, Calls Try.prog 13 #[.int .i64 x] w fun e w' => e = .returned (placeV l o i c) ∧ Below w.heap.size w w') ∧ ∀ w, Calls Try.prog 12 #[.int .i64 x] w fun e w' => e = .returned (placeV l o i c) ∧ Below w.heap.size w w' := by
  by_cases h : x < 0 ∨ 512 ≤ x
  · exact ⟨_, _, _, _, fun w => implP_out x w h, fun w => specP_out x w h⟩
  · obtain ⟨n, rfl⟩ := Int.eq_ofNat_of_zero_le (show 0 ≤ x by omega)
    by_cases h1 : n < 12
    · exact ⟨_, _, _, _, fun w => implP_0 n w h1, fun w => specP_0 n w h1⟩
    · by_cases h2 : n < 140
      · obtain ⟨m, rfl⟩ : ∃ m, n = m + 12 := ⟨n - 12, by omega⟩
        exact ⟨_, _, _, _, fun w => implP_1 m w (by omega), fun w => specP_1 m w (by omega)⟩
      · obtain ⟨m, rfl⟩ : ∃ m, n = m + 140 := ⟨n - 140, by omega⟩
        exact ⟨_, _, _, _, fun w => implP_2 m w (by omega), fun w => specP_2 m w (by omega)⟩

set_option maxRecDepth 100000 in
set_option maxHeartbeats 400000 in
theorem eqPlace_same (l o i : Int) (w : World) :
    Calls Try.prog 14 #[.agg #[.int .i64 l, .int .i64 o, .int .i64 i], .agg #[.int .i64 l, .int .i64 o, .int .i64 i]] w fun e w' => e = .returned (.bool true) ∧ Below w.heap.size w w' := by
  have HB := hide (show ∀ C D, Below w.heap.size w ((w.alloc C).alloc D) from fun C D => ((Below.refl _ _).alloc (Nat.le_refl _) _).alloc (by simp) _)
  go_enter Try.func14, Try.ntmps14
  go_wp2
  go_ret
  exact ⟨rfl, HB.out _ _⟩

set_option maxRecDepth 100000 in
set_option maxHeartbeats 400000 in
theorem lawPlace (x : Int) (w : World) :
    Calls Try.prog 5 #[.int .i64 x] w fun e w' => e = .returned (.bool true) ∧ Below w.heap.size w w' := by
  obtain ⟨l, o, i, c, hI, hS⟩ := bothP x
  have HI := hide hI
  have HS := hide hS
  clear hI hS
  have hcc : (c != c) = false := by simp
  go_enter Try.func5, Try.ntmps5
  go_wp2_with fail
  refine (HS.out _).mono ?_
  rintro e w1 ⟨rfl, b1⟩
  unfold placeV
  have B1 := hide b1
  clear b1
  go_wp2_with fail
  refine (HI.out _).mono ?_
  rintro e w2 ⟨rfl, b2⟩
  unfold placeV
  have hc : ∀ k, w2.cell? ⟨w1.heap.size, k, none⟩ = (w1.alloc (.cells #[.int .i64 l, .int .i64 o, .int .i64 i] 27)).cell? ⟨w1.heap.size, k, none⟩ := fun k => b2.cell (p := ⟨w1.heap.size, k, none⟩) (by simp)
  have q0 : w2.cell? ⟨w1.heap.size, 0, none⟩ = some (.int .i64 l) := (hc 0).trans (cell_of_row _ _ 0 _ _ _ (heap_alloc_new w1 _))
  have q1 : w2.cell? ⟨w1.heap.size, 1, none⟩ = some (.int .i64 o) := (hc 1).trans (cell_of_row _ _ 1 _ _ _ (heap_alloc_new w1 _))
  have q2 : w2.cell? ⟨w1.heap.size, 2, none⟩ = some (.int .i64 i) := (hc 2).trans (cell_of_row _ _ 2 _ _ _ (heap_alloc_new w1 _))
  have hlt : w1.heap.size < w2.heap.size := by have := b2.size; simp at this; omega
  have B2 := hide (B1.out.trans ((((Below.refl _ w1).alloc (Nat.le_refl _) (.cells #[.int .i64 l, .int .i64 o, .int .i64 i] 27)).trans (b2.mono (by simp))).mono B1.out.size))
  clear hc b2
  go_wp2_with fail
  refine (eqPlace_same l o i _).mono ?_
  rintro e w3 ⟨rfl, b3⟩
  have B3 := hide (B2.out.trans ((((Below.refl _ w2).alloc (Nat.le_refl _) (.cells #[.int .i64 l, .int .i64 o, .int .i64 i] 27)).trans (b3.mono (by simp))).mono B2.out.size))
  clear b3 q0 q1 q2 hlt
  go_wp2
  go_ret
  exact ⟨rfl, B3.out⟩
end Go.Proofs.Ytbgiccgfgljkbaa
