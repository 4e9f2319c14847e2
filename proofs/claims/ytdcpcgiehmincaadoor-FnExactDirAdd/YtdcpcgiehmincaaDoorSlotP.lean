/- What DirAdd's law does with its entry: szDirent, toDirent; how long the answer is. -/
import Derived.Test.YtdcpcgiehmincaaDoorJdL
namespace Go.Proofs.YtdcpcgiehmincaaDoor
set_option linter.unusedVariables false
set_option linter.unusedSimpArgs false
open Go.RowKit

theorem infoLD3 : (Tryd.prog.info? 47).map (·.size) = some 3 := by kernel_rfl
theorem daB_len {zs : List Int} (hbd : ∀ z ∈ zs, 0 ≤ z ∧ z < 256) (nm : ByteArray) (ino kd : Int) : (daB zs nm ino kd).length ≤ 262144 := by
  unfold daB
  split
  · rename_i h
    unfold daC at h
    split at h
    · cases h
    rename_i hok
    split at h
    · rename_i h1; exact absurd h h1
    rename_i hck
    split at h
    · cases h
    rename_i hwi
    split at h
    · cases h
    split at h
    · rename_i hr
      have hok : dirOk zs = true := by simpa using hok
      have hck : Chk.chkS nm = 0 := by simpa using hck
      have hwi := wi_both (by simpa using hwi)
      obtain ⟨h512, hle⟩ := dirOk_len hok
      have hes : ∃ es, entT zs (zs.length / 32) = some es := by
        have h := hok
        rw [dirOk_eq h512 hle, Bool.and_eq_true] at h
        exact Option.isSome_iff_exists.1 h.1
      obtain ⟨es, hes⟩ := hes
      have hl := slotsL_len zs (zs.length / 32)
      rw [bytesE_len _ (addE_ok (fun x hx => (slots_good hbd (by omega) (entT_ok hes) x hx).1) ⟨(chk_sizeA hck).1, by show (0 : Int) ≤ ino; omega, by show ino < _; omega, by show (0 : Int) ≤ kd; omega, by show kd < _; omega⟩)]
      have := addE_len (e := (nm, ino, kd)) hr (by omega) (by omega)
      omega
    · cases h
  · simp
theorem szDirent_any (nm : ByteArray) (ino kd left : Int) (w : World) (hnm : nm.size ≤ maxLen) (h0 : 0 ≤ left) (h1 : left ≤ 1048576) :
    Calls Tryd.prog 32 #[.agg (entC nm ino kd), .int .i64 left] w fun e w' => e = .returned (.int .i64 (if left < (nm.size : Int) then -1 else left - nm.size)) ∧ Below w.heap.size w w' := by
  unfold maxLen at hnm
  unfold entC
  have HB := hide (show ∀ o, Below w.heap.size w (w.alloc o) from fun o => (Below.refl _ _).alloc (Nat.le_refl _) o)
  by_cases hb : left < (nm.size : Int)
  · rw [if_pos hb]
    go_enter Tryd.func32, Tryd.ntmps32
    go_wp2
    go_ret
    exact ⟨rfl, HB.out _⟩
  · rw [if_neg hb]
    go_enter Tryd.func32, Tryd.ntmps32
    go_wp2
    go_ret
    exact ⟨rfl, HB.out _⟩

theorem toDirent_any (nm : ByteArray) (ino kd : Int) (w : World) :
    Calls Tryd.prog 34 #[.agg (entC nm ino kd)] w fun e w' => e = .returned (.agg (entC nm ino kd)) ∧ Below w.heap.size w w' := by
  unfold entC
  have HB := hide (show ∀ o o2 o3, Below w.heap.size w (((w.alloc o).alloc o2).alloc o3) from fun o o2 o3 => (((Below.refl _ _).alloc (Nat.le_refl _) o).alloc (by simp) o2).alloc (by simp; omega) o3)
  go_enter Tryd.func34, Tryd.ntmps34
  go_wp2
  have KB := (Blk.new (w.alloc (.cells #[.string nm, .int .i64 ino, .int .i64 kd] 47)) #[.string nm, .int .i64 ino, .int .i64 kd] 34).alloc (.cells #[.string nm, .int .i64 ino, .int .i64 kd] 34)
  rw [World.size_alloc] at KB
  refine bodyPost_ret (v := .agg #[.string nm, .int .i64 ino, .int .i64 kd]) ?_ rfl ⟨rfl, HB.out _ _ _⟩
  exact results_cell_row rfl _ _ (w.heap.size + 1) 34 #[.string nm, .int .i64 ino, .int .i64 kd] (0, 0) _ rfl KB Tryd.underlying34 rfl (by kernel_rfl)
end Go.Proofs.YtdcpcgiehmincaaDoor
