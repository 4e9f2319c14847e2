/- An image and its blocks: rightInSize and bytesAt of the program, L01Blocks and l09At of the model; which record is chosen. The program opens a volume: openVolume. The program's ChooseFsinfo. The model's ChooseFsinfo. The law on ChooseFsinfo, walked: it answers true and turns nothing that was there. -/
import Derived.Test.YtjlmeggbgfpilaaDoorKfH
import Derived.BigQuiet
import Derived.Deep.QuietTactic
import Derived.Great.BuildSlice
import Derived.Deep.Cut
import Derived.Deep.RegionHeld3
import Derived.Deep.MidRow
namespace Go.Proofs.YtjlmeggbgfpilaaDoor
set_option linter.unusedVariables false
set_option linter.unusedSimpArgs false
open Go.RowKit

/-- An image of so many bytes is right in size. -/
def szOk (n : Nat) : Bool := decide (n % 512 = 0) && (decide (64 ≤ n / 512) && decide (n / 512 ≤ 2048))
theorem rightInSize_any (v : Value) (zs : List Int) (w : World) (h : Rd .u8 w v zs) (hz : zs.length ≤ 140737488355328) :
    Calls Tryd.prog 19 #[v] w fun e w' => e = .returned (.bool (szOk zs.length)) ∧ w = w' := by
  obtain ⟨a, cap, rfl⟩ : ∃ a cap, v = .slice a zs.length cap := by obtain ⟨a, cap, h1, _⟩ := h; exact ⟨a, cap, h1⟩
  clear h
  generalize zs.length = n at hz ⊢
  by_cases h1 : n % 512 = 0
  · have hq1 : ((n : Int) % 512 == 0) = true := by simp; omega
    by_cases h2 : 64 ≤ n / 512
    · have hq2 : decide ((64 : Int) ≤ (n : Int) / 512) = true := by simp; omega
      have HR := hide (show szOk n = decide ((n : Int) / 512 ≤ 2048) from by unfold szOk; rw [decide_eq_true h1, decide_eq_true h2, Bool.true_and, Bool.true_and, decide_eq_decide]; omega)
      clear h1 h2
      go_enter Tryd.func19, Tryd.ntmps19
      go_wp2
      go_ret
      exact ⟨ret_bool (by rw [HR.out]), rfl⟩
    · have hq2 : decide ((64 : Int) ≤ (n : Int) / 512) = false := by simp; omega
      have HR := hide (show szOk n = false from by unfold szOk; rw [decide_eq_false h2, Bool.false_and, Bool.and_false])
      clear h1 h2
      go_enter Tryd.func19, Tryd.ntmps19
      go_wp2
      go_ret
      exact ⟨ret_bool (by first | rfl | rw [HR.out]), rfl⟩
  · have hq1 : ((n : Int) % 512 == 0) = false := by simp; omega
    have HR := hide (show szOk n = false from by unfold szOk; rw [decide_eq_false h1, Bool.false_and])
    clear h1
    go_enter Tryd.func19, Tryd.ntmps19
    go_wp2
    go_ret
    exact ⟨ret_bool (by first | rfl | rw [HR.out]), rfl⟩
theorem blocks_any (v : Value) (zs : List Int) (w : World) (h : Rd .u8 w v zs) (hz : zs.length ≤ 140737488355328) :
    Calls Tryd.prog 9 #[v] w fun e w' => e = .returned (.int .i64 (if szOk zs.length = true then ((zs.length / 512 : Nat) : Int) else 0)) ∧ w = w' := by
  obtain ⟨a, cap, rfl⟩ : ∃ a cap, v = .slice a zs.length cap := by obtain ⟨a, cap, h1, _⟩ := h; exact ⟨a, cap, h1⟩
  clear h
  generalize zs.length = n at hz ⊢
  obtain ⟨m, hm⟩ : ∃ m, m = n / 512 := ⟨_, rfl⟩
  have e1 : (n : Int) / 512 = (m : Int) := by omega
  rw [← hm]
  by_cases h1 : n % 512 = 0
  · have hq1 : (((m : Int) * 512) != (n : Int)) = false := by simp; omega
    by_cases h2 : 64 ≤ n / 512
    · have hq2 : decide ((m : Int) < 64) = false := by simp; omega
      by_cases h3 : n / 512 ≤ 2048
      · have hq3 : decide ((2048 : Int) < (m : Int)) = false := by simp; omega
        have HR := hide (show (if szOk n = true then ((m : Nat) : Int) else 0) = (m : Int) from by unfold szOk; rw [decide_eq_true h1, decide_eq_true h2, decide_eq_true h3]; rfl)
        rw [HR.out]
        have hm9 : m ≤ 2048 := by omega
        clear h1 h2 h3 hm
        go_enter Tryd.func9, Tryd.ntmps9
        go_wp2
        go_ret
        exact ⟨rfl, rfl⟩
      · have hq3 : decide ((2048 : Int) < (m : Int)) = true := by simp; omega
        have HR := hide (show (if szOk n = true then ((m : Nat) : Int) else 0) = 0 from by unfold szOk; rw [decide_eq_false h3, Bool.and_false, Bool.and_false]; rfl)
        rw [HR.out]
        have hm9 : m ≤ 300000000000 := by omega
        clear h1 h2 h3 hm
        go_enter Tryd.func9, Tryd.ntmps9
        go_wp2
        go_ret
        exact ⟨rfl, rfl⟩
    · have hq2 : decide ((m : Int) < 64) = true := by simp; omega
      have HR := hide (show (if szOk n = true then ((m : Nat) : Int) else 0) = 0 from by unfold szOk; rw [decide_eq_false h2, Bool.false_and, Bool.and_false]; rfl)
      rw [HR.out]
      have hm9 : m ≤ 2048 := by omega
      clear h1 h2 hm
      go_enter Tryd.func9, Tryd.ntmps9
      go_wp2
      go_ret
      exact ⟨rfl, rfl⟩
  · have hq1 : (((m : Int) * 512) != (n : Int)) = true := by simp; omega
    have HR := hide (show (if szOk n = true then ((m : Nat) : Int) else 0) = 0 from by unfold szOk; rw [decide_eq_false h1, Bool.false_and]; rfl)
    rw [HR.out]
    have hm9 : m ≤ 300000000000 := by omega
    clear h1 hm
    go_enter Tryd.func9, Tryd.ntmps9
    go_wp2
    go_ret
    exact ⟨rfl, rfl⟩
/-- Block k of an image. -/
def blkZ (zs : List Int) (k : Nat) : List Int := (zs.drop (512 * k)).take 512
theorem blkZ_len {zs : List Int} {k : Nat} (h : 512 * k + 512 ≤ zs.length) : (blkZ zs k).length = 512 := by unfold blkZ; simp; omega
theorem blkZ_bd {zs : List Int} (h : ∀ z ∈ zs, 0 ≤ z ∧ z < 256) (k : Nat) : ∀ z ∈ blkZ zs k, 0 ≤ z ∧ z < 256 := bytes_cut h _ _
theorem bytesAt_any (v : Value) (zs : List Int) (k : Nat) (w : World) (h : Rd .u8 w v zs) (hk : 512 * k + 512 ≤ zs.length) (hz : zs.length ≤ 140737488355328) :
    Calls Tryd.prog 21 #[v, .int .i64 k] w fun e w' => ∃ sv, e = .returned sv ∧ Rd .u8 w sv (blkZ zs k) ∧ w = w' := by
  have HR := hide h
  obtain ⟨bd, off, cap, rfl, hbw, hcl, hcm, hcell⟩ := h.partsC (by omega)
  unfold maxLen at hcm
  have HS := hide (show Rd .u8 w (.slice (some ⟨bd, off + 512 * k, none⟩) 512 (cap - 512 * k)) (blkZ zs k) from Rd.cut2 (512 * k) 512 HR.out (by omega) (by omega))
  obtain ⟨q, hq⟩ : ∃ q : Nat, q = 512 * k := ⟨_, rfl⟩
  rw [← hq] at HS
  have hqa : (k : Int) * 512 = (q : Int) := by omega
  have hqb : ((k : Int) + 1) * 512 = (q : Int) + 512 := by omega
  have hq3 : q + 512 ≤ cap := by omega
  have hq4 : ¬ cap = q := by omega
  have hq5 : q ≤ 140737488355328 := by omega
  have hk5 : k ≤ 300000000000 := by omega
  have hsub : q + 512 - q = 512 := by omega
  clear h hcell hq
  go_enter Tryd.func21, Tryd.ntmps21
  go_wp2
  go_ret
  exact ⟨_, rfl, by first | exact HS.out | (rw [hsub]; exact HS.out), rfl⟩
theorem l09At_any (v : Value) (zs : List Int) (k : Nat) (w : World) (h : Rd .u8 w v zs) (hk : 512 * k + 512 ≤ zs.length) (hz : zs.length ≤ 140737488355328) :
    Calls Tryd.prog 11 #[v, .int .i64 k] w fun e w' => ∃ sv, e = .returned sv ∧ Rd .u8 w sv (blkZ zs k) ∧ w = w' := by
  have HR := hide h
  obtain ⟨bd, off, cap, rfl, hbw, hcl, hcm, hcell⟩ := h.partsC (by omega)
  unfold maxLen at hcm
  have HS := hide (show Rd .u8 w (.slice (some ⟨bd, off + 512 * k, none⟩) 512 (cap - 512 * k)) (blkZ zs k) from Rd.cut2 (512 * k) 512 HR.out (by omega) (by omega))
  obtain ⟨q, hq⟩ : ∃ q : Nat, q = 512 * k := ⟨_, rfl⟩
  rw [← hq] at HS
  have hqa : (k : Int) * 512 = (q : Int) := by omega
  have hqb : ((k : Int) + 1) * 512 = (q : Int) + 512 := by omega
  have hq3 : q + 512 ≤ cap := by omega
  have hq4 : ¬ cap = q := by omega
  have hq5 : q ≤ 140737488355328 := by omega
  have hk5 : k ≤ 300000000000 := by omega
  have hsub : q + 512 - q = 512 := by omega
  clear h hcell hq
  go_enter Tryd.func11, Tryd.ntmps11
  go_wp2
  go_ret
  exact ⟨_, rfl, by first | exact HS.out | (rw [hsub]; exact HS.out), rfl⟩

/-- The record in block k, its number of blocks and its Gen; whether it counts. -/
def blZ (zs : List Int) (k : Nat) : Int := (decFs (blkZ zs k)).getD 1 0
def genZ (zs : List Int) (k : Nat) : Int := (decFs (blkZ zs k)).getD 0 0
def goodZ (zs : List Int) (k : Nat) : Bool := decide (codeDF (blkZ zs k) = 0) && decide (blZ zs k = ((zs.length / 512 : Nat) : Int))
def takeZ (zs : List Int) (st : Option Nat) (k : Nat) : Bool := goodZ zs k && (match st with | none => true | some s => decide (genZ zs s < genZ zs k))
/-- Which of the first k blocks is chosen. -/
def chz (zs : List Int) : Nat → Option Nat
  | 0 => none
  | k + 1 => if takeZ zs (chz zs k) k = true then some k else chz zs k
theorem chz_lt (zs : List Int) : ∀ k s, chz zs k = some s → s < k
  | 0, _, h => by cases h
  | k + 1, s, h => by
    rw [chz] at h
    split at h
    · obtain rfl := Option.some.inj h; omega
    · have := chz_lt zs k s h; omega
theorem codeDF_two (zs : List Int) : codeDF zs = 0 ∨ codeDF zs = 21 := by
  unfold codeDF
  split
  · exact .inl rfl
  · exact .inr rfl
/-- What ChooseFsinfo tells. -/
def choR (zs : List Int) : List Int := if szOk zs.length = true then (match chz zs 2 with | none => noFs | some s => decFs (blkZ zs s)) else noFs
def choS (zs : List Int) : Int := if szOk zs.length = true then (match chz zs 2 with | none => 0 | some s => (s : Int)) else 0
def choC (zs : List Int) : Int := if szOk zs.length = true then (match chz zs 2 with | none => 21 | some s => 0) else 7
theorem szOk_len {n : Nat} (h : szOk n = true) : 32768 ≤ n ∧ n ≤ 1048576 := by
  unfold szOk at h
  simp only [Bool.and_eq_true, decide_eq_true_eq] at h
  omega
theorem choR_len (zs : List Int) : (choR zs).length = 68 := by
  unfold choR
  split
  · split
    · rfl
    · exact decFs_len _
  · rfl
end Go.Proofs.YtjlmeggbgfpilaaDoor

namespace Go.Proofs.YtjlmeggbgfpilaaDoor
set_option linter.unusedVariables false
set_option linter.unusedSimpArgs false
open Go.RowKit

theorem fold_setL (off : Nat) : ∀ (vs : List Value) (n : Nat) (L : List Value), off + n + vs.length ≤ L.length → (vs.zipIdx n).foldl (fun (cs : Array Value) (p : Value × Nat) => cs.setIfInBounds (off + p.2) p.1) L.toArray = (L.take (off + n) ++ vs ++ L.drop (off + n + vs.length)).toArray
  | [], n, L, h => by simp
  | v :: vs, n, L, h => by
    have hlt : off + n < L.length := by simp at h; omega
    rw [List.zipIdx_cons, List.foldl_cons, List.setIfInBounds_toArray, fold_setL off vs (n + 1) _ (by simp at h ⊢; omega)]
    congr 1
    have e : L.set (off + n) v = L.take (off + n) ++ v :: L.drop (off + n + 1) := by rw [List.set_eq_take_append_cons_drop, if_pos hlt]
    have hl : (L.take (off + n)).length = off + n := by simp; omega
    rw [show off + (n + 1) = off + n + 1 by omega, e]
    have e1 : (L.take (off + n) ++ v :: L.drop (off + n + 1)).take (off + n + 1) = L.take (off + n) ++ [v] := by
      rw [List.take_append, hl, show off + n + 1 - (off + n) = 1 by omega, List.take_of_length_le (by omega)]
      rfl
    have e2 : (L.take (off + n) ++ v :: L.drop (off + n + 1)).drop (off + n + 1 + vs.length) = L.drop (off + n + (v :: vs).length) := by
      rw [List.drop_append, hl, List.drop_of_length_le (by omega), List.nil_append, show off + n + 1 + vs.length - (off + n) = vs.length + 1 by omega, List.drop_succ_cons, List.drop_drop]
      congr 1
      simp
      omega
    rw [e1, e2]
    simp
theorem fill_one (p : Nat → Option (Nat × Nat)) (i off : Nat) (v : Value) (vs L : List Value) (rest : List (Nat × Value)) (hp : p i = some (off, vs.length)) (hv : v.cells = vs.toArray) (hl : off + vs.length ≤ L.length) :
    Instr.fill p L.toArray ((i, v) :: rest) = Instr.fill p (L.take off ++ vs ++ L.drop (off + vs.length)).toArray rest := by
  have hf : (vs.toArray.zipIdx.foldl (fun (cs : Array Value) (p : Value × Nat) => cs.setIfInBounds (off + p.2) p.1) L.toArray) = (L.take off ++ vs ++ L.drop (off + vs.length)).toArray := by
    rw [← Array.foldl_toList, Array.toList_zipIdx]
    exact fold_setL off vs 0 L (by omega)
  rw [Instr.fill, hp]
  simp only [hv]
  rw [if_neg (by simp; omega)]
  rw [← hf]
def volT (s : Int) : List Value := [.int .i64 s, .int .u32 0, .int .i32 0, .int .u32 0, .slice none 0 0, .nilIface]
/-- The cells of a volume that was just opened. -/
def volC (img : Value) (X : List Int) (s : Int) : Array Value := ([img] ++ X.map (Value.int .i64) ++ volT s).toArray
def placesV : List (Nat × Nat) := [(0, 1), (1, 68), (69, 1), (70, 3), (73, 1), (74, 1)]
def zeroV : List Value := [Value.slice none 0 0] ++ (List.replicate 68 (0 : Int)).map (Value.int .i64) ++ volT 0
theorem built_parts (parts : List (Nat × Value)) : Tryd.prog.built 59 parts = Instr.fill (placesV.toArray[·]?) zeroV.toArray parts := by kernel_rfl
theorem built_vol (a : Option Addr) (n c : Nat) (X : List Int) (s : Int) (hX : X.length = 68) : Tryd.prog.built 59 [(0, .slice a n c), (1, .agg (cellsI X)), (2, .int .i64 s)] = some (volC (.slice a n c) X s) := by
  rw [built_parts]
  rw [fill_one _ 0 0 (.slice a n c) [.slice a n c] zeroV _ rfl rfl (by simp [zeroV, volT])]
  have e1 : zeroV.take 0 ++ [Value.slice a n c] ++ zeroV.drop (0 + [Value.slice a n c].length) = [Value.slice a n c] ++ ((List.replicate 68 (0 : Int)).map (Value.int .i64) ++ volT 0) := rfl
  rw [e1]
  rw [fill_one _ 1 1 (.agg (cellsI X)) (X.map (Value.int .i64)) _ _ (by rw [List.length_map, hX]; rfl) rfl (by simp [hX, volT])]
  have e2 : ([Value.slice a n c] ++ ((List.replicate 68 (0 : Int)).map (Value.int .i64) ++ volT 0)).take 1 ++ X.map (Value.int .i64) ++ ([Value.slice a n c] ++ ((List.replicate 68 (0 : Int)).map (Value.int .i64) ++ volT 0)).drop (1 + (X.map (Value.int .i64)).length) = ([Value.slice a n c] ++ X.map (Value.int .i64)) ++ volT 0 := by
    rw [List.length_map, hX]
    rfl
  rw [e2]
  rw [fill_one _ 2 69 (.int .i64 s) [.int .i64 s] _ _ rfl rfl (by simp [hX, volT])]
  have hl : ([Value.slice a n c] ++ X.map (Value.int .i64)).length = 69 := by simp [hX]
  rw [List.take_append_of_le_length (by omega), List.take_of_length_le (by omega), List.drop_append, hl, List.drop_of_length_le (by simp [hX])]
  rw [Instr.fill]
  congr 1
  unfold volC volT
  simp
theorem infoV : (Tryd.prog.info? 59).map (·.size) = some 75 := by kernel_rfl
theorem volC_size (a : Option Addr) (n c : Nat) (X : List Int) (s : Int) (hX : X.length = 68) : (volC (.slice a n c) X s).size = 75 := by simp [volC, volT, hX]
theorem vol_at {w : World} {g : Nat} {t : TypeId} {img : Value} {X : List Int} {s : Int} (h : Blk w g (volC img X s) t) (i : Nat) (hi : i < X.length) : w.cell? ⟨g, 1 + i, none⟩ = some (.int .i64 (X.getD i 0)) := by
  rw [h.cell (1 + i)]
  unfold volC
  rw [List.getElem?_toArray, List.append_assoc, List.getElem?_append_right (by simp), List.getElem?_append_left (by simp; omega)]
  simp [List.getD, hi]
theorem vol_slot {w : World} {g : Nat} {t : TypeId} {img : Value} {X : List Int} {s : Int} (h : Blk w g (volC img X s) t) (hX : X.length = 68) : w.cell? ⟨g, 69, none⟩ = some (.int .i64 s) := by
  rw [h.cell 69]
  unfold volC
  rw [List.getElem?_toArray, List.getElem?_append_right (by simp [hX])]
  simp [hX, volT]
theorem vol_range {w : World} {g : Nat} {t : TypeId} {img : Value} {X : List Int} {s : Int} (h : Blk w g (volC img X s) t) : w.rangeAt g 1 (X.map (Value.int .i64)) := by
  intro j v hv
  have hj : j < X.length := by
    rcases Nat.lt_or_ge j X.length with h | h
    · exact h
    · rw [List.getElem?_eq_none (by simpa using h)] at hv; cases hv
  rw [vol_at h j hj, ← hv]
  simp [List.getD, hj]
/-- The volume so far: none, or that of the block chosen. -/
def ChP (wr : World) (img : Value) (zs : List Int) (st : Option Nat) (cv : Value) : Prop := match st with
  | none => cv = .pointer none
  | some s => ∃ g, cv = .pointer (some ⟨g, 0, none⟩) ∧ Blk wr g (volC img (decFs (blkZ zs s)) (s : Int)) 59
theorem ChP.below {wr w' : World} {img : Value} {zs : List Int} {st : Option Nat} {cv : Value} (h : ChP wr img zs st cv) (hb : Below wr.heap.size wr w') : ChP w' img zs st cv := by
  cases st with
  | none => exact h
  | some s =>
    obtain ⟨g, h1, h2⟩ := h
    exact ⟨g, h1, h2.below hb h2.lt⟩
/-- What openVolume tells. -/
def OpenV (w w' : World) (img : Value) (zs : List Int) (e : Ending) : Prop :=
  (szOk zs.length = false ∧ ∃ ev m, e = .returned (.tuple #[.pointer none, ev]) ∧ Flt w' w.heap.size m ev 7) ∨
  (szOk zs.length = true ∧ chz zs 2 = none ∧ ∃ ev m, e = .returned (.tuple #[.pointer none, ev]) ∧ Flt w' w.heap.size m ev 21) ∨
  (szOk zs.length = true ∧ ∃ s g, chz zs 2 = some s ∧ e = .returned (.tuple #[.pointer (some ⟨g, 0, none⟩), .nilIface]) ∧ Blk w' g (volC img (decFs (blkZ zs s)) (s : Int)) 59)

set_option maxRecDepth 100000 in
set_option maxHeartbeats 4000000 in
theorem openVol_any (v : Value) (zs : List Int) (w : World) (h : Rd .u8 w v zs) (hbd : ∀ z ∈ zs, 0 ≤ z ∧ z < 256) (hz : zs.length ≤ 140737488355328) (hg : ErrT w) (hL : LetF w) :
    Calls Tryd.prog 12 #[v] w fun e w' => OpenV w w' v zs e ∧ Below w.heap.size w w' := by
  have HR := hide (And.intro h (And.intro hg hL))
  have HB := hide hbd
  obtain ⟨a, cap, rfl⟩ : ∃ a cap, v = .slice a zs.length cap := by obtain ⟨a, cap, h1, _⟩ := h; exact ⟨a, cap, h1⟩
  clear h hbd hg hL
  cases hs : szOk zs.length with
  | false =>
    have HS := hide hs
    clear hs
    go_enter Tryd.func12, Tryd.ntmps12
    go_wp2_with (go_at_call 19; fail)
    refine (rightInSize_any _ zs _ HR.out.1 hz).mono ?_
    rintro e w1 ⟨rfl, rfl⟩
    rw [HS.out]
    go_wp2
    go_ret2
    refine ⟨.inl ⟨HS.out, _, 0, rfl, ⟨w.heap.size, rfl, Nat.le_refl _, ?_⟩⟩, (Below.refl _ _).alloc (Nat.le_refl _) _⟩
    simp
  | true =>
    have HS := hide hs
    have hlen := szOk_len hs
    clear hs
    go_enter Tryd.func12, Tryd.ntmps12
    go_wp2_with (go_at_call 19; fail)
    refine (rightInSize_any _ zs _ HR.out.1 hz).mono ?_
    rintro e w1 ⟨rfl, rfl⟩
    rw [HS.out]
    go_wp2
    go_loopw [4, 14] (fun c i wr => ∃ k : Nat, k ≤ 2 ∧ i = .int .i64 k ∧ ChP wr (.slice a zs.length cap) zs (chz zs k) c ∧ Below w.heap.size w wr) (fun _ i _ => 2 - (intOf i).toNat)
    case atStart => exact ⟨0, by omega, rfl, rfl, Below.refl _ _⟩
    case round =>
      obtain ⟨k, hk, rfl, hc, hb⟩ := hrel
      have HC := hide hc
      have HBw := hide hb
      clear hc hb
      by_cases hlt : k < 2
      · have HRk := hide (HR.out.1.below HBw.out)
        go_wp2_with (go_at_call 21; fail)
        refine (bytesAt_any _ zs k _ HRk.out (by omega) hz).mono ?_
        rintro e w2 ⟨sv, rfl, hsv, rfl⟩
        have HSv := hide hsv
        clear hsv
        go_wp2_with (go_at_call 20; fail)
        refine (implDFs_same _ (blkZ zs k) _ HSv.out (blkZ_bd HB.out k) (by rw [blkZ_len (by omega)]; omega) (HR.out.2.1.below HBw.out) (HR.out.2.2.below HBw.out)).mono ?_
        rintro e w3 ⟨rfl, b3⟩
        have HC3 := hide (HC.out.below b3)
        have B3 := hide (HBw.out.trans (b3.mono HBw.out.size))
        have HD := hide (decFs_len (blkZ zs k))
        have HTk := hide (show takeZ zs (chz zs k) k = (goodZ zs k && (match chz zs k with | none => true | some s => decide (genZ zs s < genZ zs k))) from rfl)
        have HGd := hide (show goodZ zs k = (decide (codeDF (blkZ zs k) = 0) && decide (blZ zs k = ((zs.length / 512 : Nat) : Int))) from rfl)
        have HNx := hide (show chz zs (k + 1) = if takeZ zs (chz zs k) k = true then some k else chz zs k from rfl)
        have HBl := hide (show (decFs (blkZ zs k)).getD 1 0 = blZ zs k from rfl)
        have HGn := hide (show (decFs (blkZ zs k)).getD 0 0 = genZ zs k from rfl)
        have HVl := hide (fun (wv : World) (gv : Nat) (hb : Blk wv gv (volC (.slice a zs.length cap) (decFs (blkZ zs k)) (k : Int)) 59) => show ChP wv (.slice a zs.length cap) zs (some k) (.pointer (some ⟨gv, 0, none⟩)) from ⟨gv, rfl, hb⟩)
        have HBu := hide (built_vol a zs.length cap (decFs (blkZ zs k)) (k : Int) HD.out)
        have HVs := hide (volC_size a zs.length cap (decFs (blkZ zs k)) (k : Int) HD.out)
        clear b3 HC HSv HRk
        obtain ⟨cd, hcd⟩ : ∃ cd, cd = codeDF (blkZ zs k) := ⟨_, rfl⟩
        rw [← hcd] at HGd ⊢
        clear hcd
        obtain ⟨X, hX⟩ : ∃ X, X = decFs (blkZ zs k) := ⟨_, rfl⟩
        rw [← hX] at HD HBl HGn HVl HBu HVs ⊢
        clear hX
        obtain ⟨st, hst⟩ : ∃ st, st = chz zs k := ⟨_, rfl⟩
        rw [← hst] at HC3 HTk HNx
        clear hst
        obtain ⟨bl, hbl⟩ : ∃ bl, bl = blZ zs k := ⟨_, rfl⟩
        rw [← hbl] at HBl HGd
        obtain ⟨gn, hgn⟩ : ∃ gn, gn = genZ zs k := ⟨_, rfl⟩
        rw [← hgn] at HGn HTk
        clear hbl hgn
        have HZ := hide (show (cellsI X).size = 68 from by rw [cellsI_size]; exact HD.out)
        have K4 := hide (show Blk ((w3.alloc (.cells Tryd.zeroCells28 28)).setRow w3.heap.size (cellsI X)) w3.heap.size (cellsI X) 28 ∧ Below w3.heap.size w3 ((w3.alloc (.cells Tryd.zeroCells28 28)).setRow w3.heap.size (cellsI X)) from ⟨(Blk.new w3 Tryd.zeroCells28 28).row _, below_setRow ((Below.refl _ _).alloc (Nat.le_refl _) _) (Nat.le_refl _) _⟩)
        have c4 : ((w3.alloc (.cells Tryd.zeroCells28 28)).setRow w3.heap.size (cellsI X)).cell? ⟨w3.heap.size, 1, none⟩ = some (.int .i64 bl) := by rw [← HBl.out]; exact (K4.out.1.cell 1).trans (cellsI_get X 1 (by rw [HD.out]; omega))
        have d4 : ((w3.alloc (.cells Tryd.zeroCells28 28)).setRow w3.heap.size (cellsI X)).cell? ⟨w3.heap.size, 0, none⟩ = some (.int .i64 gn) := by rw [← HGn.out]; exact (K4.out.1.cell 0).trans (cellsI_get X 0 (by rw [HD.out]; omega))
        have HC4 := hide (HC3.out.below K4.out.2)
        have B4 := hide (B3.out.trans (K4.out.2.mono B3.out.size))
        clear HC3 B3 HBw
        by_cases hcd : cd = 0
        · have hq1 : (cd != 0) = false := by simp [hcd]
          by_cases hbl : bl = ((zs.length / 512 : Nat) : Int)
          · have hq2 : (bl != (zs.length : Int) / 512) = false := by rw [hbl]; simp
            have HG1 := hide (show goodZ zs k = true from by rw [HGd.out, decide_eq_true hcd, decide_eq_true hbl]; rfl)
            clear hcd hbl HGd
            cases st with
            | none =>
              have HN2 := hide (show chz zs (k + 1) = some k from by rw [HNx.out, HTk.out, HG1.out]; rfl)
              have hcv := HC4.out
              unfold ChP at hcv
              subst hcv
              clear HNx HTk HC4
              go_wp2_with (refine wpList_store_row rfl 28 _ _ rfl w3.heap.size (cellsI X) rfl rfl 28 _ (Blk.new w3 Tryd.zeroCells28 28) (by rw [HZ.out]; exact info68) (by rw [HZ.out]; rfl) (cellsI_one _) ?_; generalize (w3.alloc (.cells Tryd.zeroCells28 28)).setRow w3.heap.size (cellsI X) = w4 at K4 c4 d4 B4 ⊢)
              go_quiet (fail)
              go_wp2_with (first | (refine wpList_load_row rfl 28 _ rfl w3.heap.size rfl 28 (cellsI X) (0, 0) _ K4.out.1 Tryd.underlying28 rfl (by rw [HZ.out]; exact info68) ?_) | (refine wpList_buildTo rfl 59 _ rfl (some 49) rfl (volC (.slice a zs.length cap) X (k : Int)) (by simp only [List.map_toArray, List.map_cons, List.map_nil]; exact HBu.out) ?_))
              go_roundw
              case rel => exact ⟨k + 1, by omega, by go_num, by rw [HN2.out]; exact HVl.out _ _ (Blk.new _ _ _), by first | exact (below_drewN B4.out _).alloc B4.out.size _ | exact B4.out.drew.alloc B4.out.size _ | exact B4.out.alloc B4.out.size _⟩
              case measure => simp [intOf]; omega
            | some s =>
              obtain ⟨g5, hcv, k5⟩ := HC4.out
              subst hcv
              have d5 := vol_at k5 0 (by rw [decFs_len]; omega)
              rw [show (decFs (blkZ zs s)).getD 0 0 = genZ zs s from rfl] at d5
              obtain ⟨gs, hgs⟩ : ∃ gs, gs = genZ zs s := ⟨_, rfl⟩
              have HTk2 := hide (show takeZ zs (some s) k = (goodZ zs k && decide (gs < gn)) from by rw [HTk.out, hgs])
              rw [← hgs] at d5
              have K5 := hide k5
              clear hgs k5 HTk
              by_cases hgt : gs < gn
              · have hq3 : decide (gs < gn) = true := by simp [hgt]
                have HN2 := hide (show chz zs (k + 1) = some k from by rw [HNx.out, HTk2.out, HG1.out, hq3]; rfl)
                clear HNx HTk2 HC4 K5 hgt
                go_wp2_with (refine wpList_store_row rfl 28 _ _ rfl w3.heap.size (cellsI X) rfl rfl 28 _ (Blk.new w3 Tryd.zeroCells28 28) (by rw [HZ.out]; exact info68) (by rw [HZ.out]; rfl) (cellsI_one _) ?_; generalize (w3.alloc (.cells Tryd.zeroCells28 28)).setRow w3.heap.size (cellsI X) = w4 at K4 c4 d4 d5 B4 ⊢)
                go_quiet (fail)
                go_wp2_with (first | (refine wpList_load_row rfl 28 _ rfl w3.heap.size rfl 28 (cellsI X) (0, 0) _ K4.out.1 Tryd.underlying28 rfl (by rw [HZ.out]; exact info68) ?_) | (refine wpList_buildTo rfl 59 _ rfl (some 49) rfl (volC (.slice a zs.length cap) X (k : Int)) (by simp only [List.map_toArray, List.map_cons, List.map_nil]; exact HBu.out) ?_))
                go_roundw
                case rel => exact ⟨k + 1, by omega, by go_num, by rw [HN2.out]; exact HVl.out _ _ (Blk.new _ _ _), by first | exact (below_drewN B4.out _).alloc B4.out.size _ | exact B4.out.drew.alloc B4.out.size _ | exact B4.out.alloc B4.out.size _⟩
                case measure => simp [intOf]; omega
              · have hq3 : decide (gs < gn) = false := by simp; omega
                have HN2 := hide (show chz zs (k + 1) = some s from by rw [HNx.out, HTk2.out, HG1.out, hq3]; rfl)
                clear HNx HTk2 hgt HVl HBu HVs
                have HC5 := hide (show ∀ w9, Below ((w3.alloc (.cells Tryd.zeroCells28 28)).setRow w3.heap.size (cellsI X)).heap.size ((w3.alloc (.cells Tryd.zeroCells28 28)).setRow w3.heap.size (cellsI X)) w9 → ChP w9 (.slice a zs.length cap) zs (some s) (.pointer (some ⟨g5, 0, none⟩)) from fun w9 hb => HC4.out.below hb)
                clear HC4 K5
                go_wp2_with (refine wpList_store_row rfl 28 _ _ rfl w3.heap.size (cellsI X) rfl rfl 28 _ (Blk.new w3 Tryd.zeroCells28 28) (by rw [HZ.out]; exact info68) (by rw [HZ.out]; rfl) (cellsI_one _) ?_; generalize (w3.alloc (.cells Tryd.zeroCells28 28)).setRow w3.heap.size (cellsI X) = w4 at K4 c4 d4 d5 HC5 B4 ⊢)
                go_quiet (fail)
                go_wp2
                go_roundw
                case rel => exact ⟨k + 1, by omega, by go_num, by rw [HN2.out]; exact HC5.out _ (by first | exact belD (Below.refl _ _) _ | exact below_drewN (Below.refl _ _) _ | exact (Below.refl _ _).drew), by first | exact below_drewN B4.out _ | exact B4.out.drew | exact B4.out⟩
                case measure => simp [intOf]; omega
          · have hq2 : (bl != (zs.length : Int) / 512) = true := by simp; omega
            have HN2 := hide (show chz zs (k + 1) = st from by rw [HNx.out, HTk.out, HGd.out, decide_eq_false hbl, Bool.and_false, Bool.false_and]; rfl)
            clear HNx HTk HGd HBu HVs HVl
            go_wp2_with (refine wpList_store_row rfl 28 _ _ rfl w3.heap.size (cellsI X) rfl rfl 28 _ (Blk.new w3 Tryd.zeroCells28 28) (by rw [HZ.out]; exact info68) (by rw [HZ.out]; rfl) (cellsI_one _) ?_; generalize (w3.alloc (.cells Tryd.zeroCells28 28)).setRow w3.heap.size (cellsI X) = w4 at K4 c4 d4 HC4 B4 ⊢)
            go_roundw
            case rel => exact ⟨k + 1, by omega, by go_num, by rw [HN2.out]; exact HC4.out, B4.out⟩
            case measure => simp [intOf]; omega
        · have hq1 : (cd != 0) = true := by simp [hcd]
          have HN2 := hide (show chz zs (k + 1) = st from by rw [HNx.out, HTk.out, HGd.out, decide_eq_false hcd, Bool.false_and, Bool.false_and]; rfl)
          clear HNx HTk HGd HBu HVs HVl
          go_wp2_with (refine wpList_store_row rfl 28 _ _ rfl w3.heap.size (cellsI X) rfl rfl 28 _ (Blk.new w3 Tryd.zeroCells28 28) (by rw [HZ.out]; exact info68) (by rw [HZ.out]; rfl) (cellsI_one _) ?_; generalize (w3.alloc (.cells Tryd.zeroCells28 28)).setRow w3.heap.size (cellsI X) = w4 at K4 c4 d4 HC4 B4 ⊢)
          go_roundw
          case rel => exact ⟨k + 1, by omega, by go_num, by rw [HN2.out]; exact HC4.out, B4.out⟩
          case measure => simp [intOf]; omega
      · have hk2 : k = 2 := by omega
        subst hk2
        have HS2 := hide (show szOk zs.length = true from HS.out)
        cases hst : chz zs 2 with
        | none =>
          have hcv := HC.out
          rw [hst] at hcv
          unfold ChP at hcv
          subst hcv
          have HST := hide hst
          clear hst HC
          go_wp2
          go_ret2
          refine ⟨.inr (.inl ⟨HS2.out, HST.out, _, 1, rfl, ⟨wr.heap.size + 1, _, rfl, ?_, ?_, ⟨wr.heap.size, rfl, HBw.out.size, ?_⟩⟩⟩), (HBw.out.alloc HBw.out.size _).alloc ?_ _⟩
          · have := HBw.out.size; omega
          · simp
          · simp
          · have := HBw.out.size; simp; omega
        | some s =>
          have hcv := HC.out
          rw [hst] at hcv
          obtain ⟨g, hcv, kg⟩ := hcv
          subst hcv
          have KG := hide (And.intro hst kg)
          clear hst kg HC
          go_wp2
          go_ret2
          exact ⟨.inr (.inr ⟨HS2.out, s, g, KG.out.1, rfl, KG.out.2⟩), HBw.out⟩
end Go.Proofs.YtjlmeggbgfpilaaDoor

namespace Go.Proofs.YtjlmeggbgfpilaaDoor
set_option linter.unusedVariables false
set_option linter.unusedSimpArgs false
open Go.RowKit

theorem results_rtt {P : Program} {fn : Func} {p t u : Tmp} {ty : TypeId} (h : fn.results = #[.cell p ty, .tmp t, .tmp u]) (tmps : Array Value) (w : World) (g : Nat) (ti : TypeId) (cs : Array Value) (fr : Nat × Nat) (d : TypeDesc) (x y : Value)
    (hp : tmps.getD p undef = .pointer (some ⟨g, 0, none⟩)) (ht : tmps.getD t undef = x) (hy : tmps.getD u undef = y) (hg : w.heap[g]? = some (.cells cs ti fr))
    (hu : P.underlying ty = some d) (hd : (match d with | .struct _ | .array _ _ => true | _ => false) = true) (hi : (P.info? ty).map (·.size) = some cs.size) :
    (results fn tmps).run P w = .ok (.tuple #[.agg cs, x, y]) w := by
  simp only [results, h]
  simp [Sem.run_bind, Result.andThen, ← Array.getD_eq_getD_getElem?, ht, hp, hy, asAddr, run_loadVar_row w g ti ty cs fr d hg hu hd hi]
theorem vol_ne {w : World} {g b : Nat} {a : Option Addr} {n c : Nat} {X : List Int} {s : Int} (hX : X.length = 68) (h : Blk w g (volC (.slice a n c) X s) 59) (k : Blk w b (cellsI noFs) 28) : g ≠ b := by
  rintro rfl
  have e := h.symm.trans k
  have e2 := Option.some.inj e
  injection e2 with e3 e4 e5
  have e6 := congrArg Array.size e3
  rw [volC_size a n c X s hX] at e6
  exact absurd e6 (by decide)

set_option maxRecDepth 100000 in
set_option maxHeartbeats 4000000 in
theorem implCh_any (v : Value) (zs : List Int) (w : World) (h : Rd .u8 w v zs) (hbd : ∀ z ∈ zs, 0 ≤ z ∧ z < 256) (hz : zs.length ≤ 140737488355328) (hg : ErrT w) (hL : LetF w) :
    Calls Tryd.prog 6 #[v] w fun e w' => e = .returned (.tuple #[.agg (cellsI (choR zs)), .int .i64 (choS zs), .int .i64 (choC zs)]) ∧ Below w.heap.size w w' := by
  obtain ⟨W, hW⟩ : ∃ W, W = w.alloc (.cells Tryd.zeroCells28 28) := ⟨_, rfl⟩
  have KW := hide (show Blk W w.heap.size (cellsI noFs) 28 ∧ Below w.heap.size w W from by rw [hW]; exact ⟨Blk.new _ _ _, (Below.refl _ _).alloc (Nat.le_refl _) _⟩)
  have hWs : w.heap.size < W.heap.size := KW.out.1.lt
  have HW9 := hide hW
  have HR := hide (And.intro (h.below KW.out.2) (And.intro (hg.below KW.out.2) (hL.below KW.out.2)))
  have HB := hide hbd
  obtain ⟨a, cap, rfl⟩ : ∃ a cap, v = .slice a zs.length cap := by obtain ⟨a, cap, h1, _⟩ := h; exact ⟨a, cap, h1⟩
  clear h hbd hg hL hW
  go_enter Tryd.func6, Tryd.ntmps6
  go_wp2_with (go_at_call 12; fail)
  rw [← HW9.out]
  refine (openVol_any _ zs _ HR.out.1 HB.out hz HR.out.2.1 HR.out.2.2).mono ?_
  rintro e w1 ⟨hO, b1⟩
  have K1 := hide (show Blk w1 w.heap.size (cellsI noFs) 28 ∧ Below w.heap.size w w1 ∧ ErrT w1 from ⟨KW.out.1.below b1 hWs, KW.out.2.trans (b1.mono (Nat.le_of_lt hWs)), HR.out.2.1.below b1⟩)
  have hs1 := b1.size
  clear b1
  rcases hO with ⟨hs, ev, m, rfl, hf⟩ | ⟨hs, hc, ev, m, rfl, hf⟩ | ⟨hs, s, g, hc, rfl, kg⟩
  · have HA := hide (show choR zs = noFs ∧ choS zs = 0 ∧ choC zs = 7 from by unfold choR choS choC; rw [hs]; exact ⟨rfl, rfl, rfl⟩)
    obtain ⟨t', x', rfl⟩ := hf.iface
    have HF := hide hf
    clear hf hs
    go_wp2_with (first | (go_at_call 13; refine (codeOf_any m _ 7 _ _ HF.out K1.out.2.2).mono ?_; rintro e w2 ⟨rfl, b2⟩; have K2 := hide (show Blk w2 w.heap.size (cellsI noFs) 28 ∧ Below w.heap.size w w2 from ⟨K1.out.1.below b2 K1.out.1.lt, K1.out.2.1.trans (b2.mono K1.out.2.1.size)⟩); clear b2) | (refine wpList_store_row rfl 28 _ _ rfl w.heap.size (cellsI noFs) rfl rfl 28 _ K2.out.1 info68 rfl (cellsI_one _) ?_))
    refine bodyPost_ret (v := .tuple #[.agg (cellsI noFs), .int .i64 0, .int .i64 7]) ?_ rfl ⟨by rw [HA.out.1, HA.out.2.1, HA.out.2.2], below_setRow K2.out.2 (Nat.le_refl _) _⟩
    exact results_rtt rfl _ _ w.heap.size 28 (cellsI noFs) (0, 0) _ _ _ rfl rfl rfl (K2.out.1.row _) Tryd.underlying28 rfl info68
  · have HA := hide (show choR zs = noFs ∧ choS zs = 0 ∧ choC zs = 21 from by unfold choR choS choC; rw [hs, hc]; exact ⟨rfl, rfl, rfl⟩)
    obtain ⟨t', x', rfl⟩ := hf.iface
    have HF := hide hf
    clear hf hs hc
    go_wp2_with (first | (go_at_call 13; refine (codeOf_any m _ 21 _ _ HF.out K1.out.2.2).mono ?_; rintro e w2 ⟨rfl, b2⟩; have K2 := hide (show Blk w2 w.heap.size (cellsI noFs) 28 ∧ Below w.heap.size w w2 from ⟨K1.out.1.below b2 K1.out.1.lt, K1.out.2.1.trans (b2.mono K1.out.2.1.size)⟩); clear b2) | (refine wpList_store_row rfl 28 _ _ rfl w.heap.size (cellsI noFs) rfl rfl 28 _ K2.out.1 info68 rfl (cellsI_one _) ?_))
    refine bodyPost_ret (v := .tuple #[.agg (cellsI noFs), .int .i64 0, .int .i64 21]) ?_ rfl ⟨by rw [HA.out.1, HA.out.2.1, HA.out.2.2], below_setRow K2.out.2 (Nat.le_refl _) _⟩
    exact results_rtt rfl _ _ w.heap.size 28 (cellsI noFs) (0, 0) _ _ _ rfl rfl rfl (K2.out.1.row _) Tryd.underlying28 rfl info68
  · have HA := hide (show choR zs = decFs (blkZ zs s) ∧ choS zs = (s : Int) ∧ choC zs = 0 from by unfold choR choS choC; rw [hs, hc]; exact ⟨rfl, rfl, rfl⟩)
    have HD := hide (decFs_len (blkZ zs s))
    have hgn := vol_ne HD.out kg K1.out.1
    obtain ⟨X, hX⟩ : ∃ X, X = decFs (blkZ zs s) := ⟨_, rfl⟩
    rw [← hX] at HA HD kg
    have KG := hide kg
    clear kg hs hc hX
    have HZ := hide (show (cellsI X).size = 68 from by rw [cellsI_size]; exact HD.out)
    go_wp2_with fail
    refine wp_region_noPanic ?_
    refine wp_region_held_drew (S := fun w' => Blk w' g (volC (.slice a zs.length cap) X (s : Int)) 59) (by kernel_rfl) KG.out (fun hH => ?_)
    refine wpAnyH_take (i := 0) (oi := _) (v := .pointer (some ⟨g, 0, none⟩)) rfl (by kernel_rfl) (by kernel_rfl) (by kernel_rfl) (fun _ _ _ h => h) (Or.inl ⟨by rfl, fun w' hw' => by go_simp⟩) hH ?_
    try simp only [Act.put, List.getElem_toArray, List.getElem_cons_zero, List.getElem_cons_succ, List.setIfInBounds_toArray, List.set_cons_zero, List.set_cons_succ]
    refine wpAnyH_take (i := 1) (oi := _) (v := .pointer (some ⟨g, 0, none⟩)) rfl (by kernel_rfl) (by kernel_rfl) (by kernel_rfl) (fun _ _ _ h => h) (Or.inl ⟨by rfl, fun w' hw' => by go_simp⟩) hH ?_
    try simp only [Act.put, List.getElem_toArray, List.getElem_cons_zero, List.getElem_cons_succ, List.setIfInBounds_toArray, List.set_cons_zero, List.set_cons_succ]
    refine wpAnyH_take (i := 2) (oi := _) (v := .pointer (some ⟨g, 1, none⟩)) rfl (by kernel_rfl) (by kernel_rfl) (by kernel_rfl) (fun _ _ _ h => h) (Or.inl ⟨by rfl, fun w' hw' => by go_simp⟩) hH ?_
    try simp only [Act.put, List.getElem_toArray, List.getElem_cons_zero, List.getElem_cons_succ, List.setIfInBounds_toArray, List.set_cons_zero, List.set_cons_succ]
    refine wpAnyH_take (i := 3) (oi := _) (v := .agg (cellsI X)) rfl (by kernel_rfl) (by kernel_rfl) (by kernel_rfl) (fun _ _ _ h => h) (yieldsIf_load_mid (by rfl) 28 _ rfl g 1 rfl (X.map (Value.int .i64)) _ (fun w' h => vol_range h) Tryd.underlying28 rfl (by rw [List.length_map, HD.out]; exact info68)) hH ?_
    try simp only [Act.put, List.getElem_toArray, List.getElem_cons_zero, List.getElem_cons_succ, List.setIfInBounds_toArray, List.set_cons_zero, List.set_cons_succ]
    refine wpAnyH_take (i := 4) (oi := _) (v := .pointer (some ⟨g, 0, none⟩)) rfl (by kernel_rfl) (by kernel_rfl) (by kernel_rfl) (fun _ _ _ h => h) (Or.inl ⟨by rfl, fun w' hw' => by go_simp⟩) hH ?_
    try simp only [Act.put, List.getElem_toArray, List.getElem_cons_zero, List.getElem_cons_succ, List.setIfInBounds_toArray, List.set_cons_zero, List.set_cons_succ]
    refine wpAnyH_take (i := 5) (oi := _) (v := .pointer (some ⟨g, 0, none⟩)) rfl (by kernel_rfl) (by kernel_rfl) (by kernel_rfl) (fun _ _ _ h => h) (Or.inl ⟨by rfl, fun w' hw' => by go_simp⟩) hH ?_
    try simp only [Act.put, List.getElem_toArray, List.getElem_cons_zero, List.getElem_cons_succ, List.setIfInBounds_toArray, List.set_cons_zero, List.set_cons_succ]
    refine wpAnyH_take (i := 6) (oi := _) (v := .pointer (some ⟨g, 69, none⟩)) rfl (by kernel_rfl) (by kernel_rfl) (by kernel_rfl) (fun _ _ _ h => h) (Or.inl ⟨by rfl, fun w' hw' => by go_simp⟩) hH ?_
    try simp only [Act.put, List.getElem_toArray, List.getElem_cons_zero, List.getElem_cons_succ, List.setIfInBounds_toArray, List.set_cons_zero, List.set_cons_succ]
    refine wpAnyH_take (i := 7) (oi := _) (v := .int .i64 (s : Int)) rfl (by kernel_rfl) (by kernel_rfl) (by kernel_rfl) (fun _ _ _ h => h) (Or.inl ⟨by rfl, fun w' hw' => by have hc := vol_slot hw' HD.out; clear hw'; go_simp⟩) hH ?_
    try simp only [Act.put, List.getElem_toArray, List.getElem_cons_zero, List.getElem_cons_succ, List.setIfInBounds_toArray, List.set_cons_zero, List.set_cons_succ]
    refine wpAnyH_ready (rs := [8]) (by kernel_rfl) (by simp) ?_
    refine AllReadyH.cons (o := _) rfl (fun K hK => ?_) AllReadyH.nil
    rw [if_pos (by rfl)]
    refine wp_store_row 28 _ _ rfl w.heap.size (cellsI X) rfl rfl 28 _ (show Blk w1.drew w.heap.size (cellsI noFs) 28 from K1.out.1) (by rw [HZ.out]; exact info68) (by rw [HZ.out]; rfl) (cellsI_one _) ?_
    refine hK.out _ _ (show Blk _ _ _ _ from (setRow_block _ _ _ _ hgn).trans hH) (fun hH => ?_)
    clear hK K
    try simp only [Act.put, List.getElem_toArray, List.getElem_cons_zero, List.getElem_cons_succ, List.setIfInBounds_toArray, List.set_cons_zero, List.set_cons_succ]
    refine wpAnyH_ready (rs := [9]) (by kernel_rfl) (by simp) ?_
    refine AllReadyH.cons (o := _) rfl (fun K hK => ?_) AllReadyH.nil
    go_simp
    refine hK.out _ _ hH (fun hH => ?_)
    clear hK K
    try simp only [Act.put, List.getElem_toArray, List.getElem_cons_zero, List.getElem_cons_succ, List.setIfInBounds_toArray, List.set_cons_zero, List.set_cons_succ]
    refine wpAnyH_ready (rs := [10]) (by kernel_rfl) (by simp) ?_
    refine AllReadyH.cons (o := _) rfl (fun K hK => ?_) AllReadyH.nil
    go_simp
    refine hK.out _ _ hH (fun hH => ?_)
    clear hK K
    try simp only [Act.put, List.getElem_toArray, List.getElem_cons_zero, List.getElem_cons_succ, List.setIfInBounds_toArray, List.set_cons_zero, List.set_cons_succ]
    refine wpAnyH_done (by kernel_rfl) (NoPanic.normal ?_) _
    clear hH
    go_wp2
    refine bodyPost_ret (v := .tuple #[.agg (cellsI X), .int .i64 (s : Int), .int .i64 0]) ?_ rfl ⟨by rw [HA.out.1, HA.out.2.1, HA.out.2.2], below_setRow (K1.out.2.1.drew) (Nat.le_refl _) _⟩
    exact results_rtt rfl _ _ w.heap.size 28 (cellsI X) (0, 0) _ _ _ rfl rfl rfl (Blk.row (w := w1.drew) K1.out.1 _) Tryd.underlying28 rfl (by rw [HZ.out]; exact info68)
end Go.Proofs.YtjlmeggbgfpilaaDoor

namespace Go.Proofs.YtjlmeggbgfpilaaDoor
set_option linter.unusedVariables false
set_option linter.unusedSimpArgs false
open Go.RowKit

/-- The record chosen so far. -/
def recZ (zs : List Int) (st : Option Nat) : List Int := match st with | none => noFs | some s => decFs (blkZ zs s)
def slotZ (st : Option Nat) : Int := match st with | none => 0 | some s => (s : Int)
def foundZ (st : Option Nat) : Bool := match st with | none => false | some _ => true
theorem recZ_len (zs : List Int) (st : Option Nat) : (recZ zs st).length = 68 := by
  cases st with
  | none => rfl
  | some s => exact decFs_len _

set_option maxRecDepth 100000 in
set_option maxHeartbeats 4000000 in
theorem specCh_any (v : Value) (zs : List Int) (w : World) (h : Rd .u8 w v zs) (hbd : ∀ z ∈ zs, 0 ≤ z ∧ z < 256) (hz : zs.length ≤ 140737488355328) :
    Calls Tryd.prog 4 #[v] w fun e w' => e = .returned (.tuple #[.agg (cellsI (choR zs)), .int .i64 (choS zs), .int .i64 (choC zs)]) ∧ Below w.heap.size w w' := by
  obtain ⟨W, hW⟩ : ∃ W, W = w.alloc (.cells Tryd.zeroCells28 28) := ⟨_, rfl⟩
  have KW := hide (show Blk W w.heap.size (cellsI noFs) 28 ∧ Below w.heap.size w W from by rw [hW]; exact ⟨Blk.new _ _ _, (Below.refl _ _).alloc (Nat.le_refl _) _⟩)
  have hWs : w.heap.size < W.heap.size := KW.out.1.lt
  have HW9 := hide hW
  have HR := hide (h.below KW.out.2)
  have HR0 := hide (fun (w' : World) (hb : Below w.heap.size w w') => h.below hb)
  have HB := hide hbd
  obtain ⟨a, cap, rfl⟩ : ∃ a cap, v = .slice a zs.length cap := by obtain ⟨a, cap, h1, _⟩ := h; exact ⟨a, cap, h1⟩
  clear h hbd hW
  go_enter Tryd.func4, Tryd.ntmps4
  go_wp2_with (go_at_call 9; fail)
  rw [← HW9.out]
  refine (blocks_any _ zs _ HR.out hz).mono ?_
  rintro e w1 ⟨rfl, rfl⟩
  cases hs : szOk zs.length with
  | false =>
    have HA := hide (show choR zs = noFs ∧ choS zs = 0 ∧ choC zs = 7 from by unfold choR choS choC; rw [hs]; exact ⟨rfl, rfl, rfl⟩)
    rw [if_neg (by decide)]
    clear hs
    go_wp2_with (refine wpList_store_row rfl 28 _ _ rfl w.heap.size (cellsI noFs) rfl rfl 28 _ KW.out.1 info68 rfl (cellsI_one _) ?_)
    refine bodyPost_ret (v := .tuple #[.agg (cellsI noFs), .int .i64 0, .int .i64 7]) ?_ rfl ⟨by rw [HA.out.1, HA.out.2.1, HA.out.2.2], below_setRow KW.out.2 (Nat.le_refl _) _⟩
    exact results_rtt rfl _ _ w.heap.size 28 (cellsI noFs) (0, 0) _ _ _ rfl rfl rfl (KW.out.1.row _) Tryd.underlying28 rfl info68
  | true =>
    have hlen := szOk_len hs
    have HS := hide hs
    rw [if_pos rfl]
    clear hs
    obtain ⟨n, hn⟩ : ∃ n : Nat, n = zs.length / 512 := ⟨_, rfl⟩
    rw [← hn]
    have hn0 : ((n : Int) == 0) = false := by simp; omega
    have HN := hide hn
    clear hn
    obtain ⟨W2, hW2⟩ : ∃ W2, W2 = (W.alloc (.cells Tryd.zeroCells28 28)).setRow W.heap.size (cellsI noFs) := ⟨_, rfl⟩
    have K2 := hide (show Blk W2 W.heap.size (cellsI noFs) 28 ∧ Blk W2 w.heap.size (cellsI noFs) 28 ∧ Below w.heap.size w W2 from by
      rw [hW2]
      exact ⟨(Blk.new W Tryd.zeroCells28 28).row _, (setRow_block _ _ _ _ (by omega)).trans (KW.out.1.alloc _), below_setRow (KW.out.2.alloc (Nat.le_of_lt hWs) _) (Nat.le_of_lt hWs) _⟩)
    have HW2 := hide hW2
    clear hW2
    go_wp2_with (refine wpList_store_row rfl 28 _ _ rfl W.heap.size (cellsI noFs) rfl rfl 28 _ (Blk.new W Tryd.zeroCells28 28) info68 rfl (cellsI_one _) ?_; rw [← HW2.out])
    obtain ⟨gb, hgb⟩ : ∃ gb, gb = W.heap.size := ⟨_, rfl⟩
    rw [← hgb] at K2 hWs ⊢
    clear hgb
    go_loopw [7, 8, 9] (fun sl fo i wr => ∃ k : Nat, k ≤ 2 ∧ i = .int .i64 k ∧ sl = .int .i64 (slotZ (chz zs k)) ∧ fo = .bool (foundZ (chz zs k)) ∧ Blk wr gb (cellsI (recZ zs (chz zs k))) 28 ∧ Blk wr w.heap.size (cellsI noFs) 28 ∧ Below w.heap.size w wr) (fun _ _ i _ => 2 - (intOf i).toNat)
    case atStart => exact ⟨0, by omega, rfl, rfl, rfl, K2.out.1, K2.out.2.1, K2.out.2.2⟩
    case round =>
      clear K2
      obtain ⟨k, hk, rfl, rfl, rfl, hb1, hb2, hb⟩ := hrel
      have HK := hide (And.intro hb1 (And.intro hb2 hb))
      clear hb1 hb2 hb
      by_cases hlt : k < 2
      · have HRk := hide (show Rd .u8 wr (.slice a zs.length cap) zs from HR0.out wr HK.out.2.2)
        go_wp2_with (go_at_call 11; fail)
        refine (l09At_any _ zs k _ HRk.out (by omega) hz).mono ?_
        rintro e w2 ⟨sv, rfl, hsv, rfl⟩
        have HSv := hide hsv
        clear hsv
        go_wp2_with (go_at_call 10; fail)
        refine (specDFs_any _ (blkZ zs k) _ HSv.out (blkZ_bd HB.out k)).mono ?_
        rintro e w3 ⟨rfl, b3⟩
        have hgl := HK.out.1.lt
        have hgl2 := HK.out.2.1.lt
        have hs3 := b3.size
        have HD := hide (decFs_len (blkZ zs k))
        have HTk := hide (show takeZ zs (chz zs k) k = (goodZ zs k && (match chz zs k with | none => true | some s => decide (genZ zs s < genZ zs k))) from rfl)
        have HGd := hide (show goodZ zs k = (decide (codeDF (blkZ zs k) = 0) && decide (blZ zs k = (n : Int))) from by rw [HN.out]; rfl)
        have HNx := hide (show chz zs (k + 1) = if takeZ zs (chz zs k) k = true then some k else chz zs k from rfl)
        have HBl := hide (show (decFs (blkZ zs k)).getD 1 0 = blZ zs k from rfl)
        have HGn := hide (show (decFs (blkZ zs k)).getD 0 0 = genZ zs k from rfl)
        have HRz := hide (show recZ zs (some k) = decFs (blkZ zs k) from rfl)
        have K3 := hide (show Blk w3 gb (cellsI (recZ zs (chz zs k))) 28 ∧ Blk w3 w.heap.size (cellsI noFs) 28 ∧ Below w.heap.size w w3 from ⟨HK.out.1.below b3 hgl, HK.out.2.1.below b3 hgl2, HK.out.2.2.trans (b3.mono HK.out.2.2.size)⟩)
        clear b3 HSv HRk HK
        obtain ⟨cd, hcd⟩ : ∃ cd, cd = codeDF (blkZ zs k) := ⟨_, rfl⟩
        rw [← hcd] at HGd ⊢
        clear hcd
        obtain ⟨X, hX⟩ : ∃ X, X = decFs (blkZ zs k) := ⟨_, rfl⟩
        rw [← hX] at HD HBl HGn HRz ⊢
        clear hX
        obtain ⟨st, hst⟩ : ∃ st, st = chz zs k := ⟨_, rfl⟩
        rw [← hst] at K3 HTk HNx ⊢
        clear hst
        obtain ⟨bl, hbl⟩ : ∃ bl, bl = blZ zs k := ⟨_, rfl⟩
        rw [← hbl] at HBl HGd
        obtain ⟨gn, hgn⟩ : ∃ gn, gn = genZ zs k := ⟨_, rfl⟩
        rw [← hgn] at HGn HTk
        clear hbl hgn
        have HZ := hide (show (cellsI X).size = 68 from by rw [cellsI_size]; exact HD.out)
        obtain ⟨Y, hY⟩ : ∃ Y, Y = recZ zs st := ⟨_, rfl⟩
        have HYZ := hide (show (cellsI Y).size = 68 from by rw [hY, cellsI_size]; exact recZ_len _ _)
        obtain ⟨gs, hgs⟩ : ∃ gs, gs = Y.getD 0 0 := ⟨_, rfl⟩
        have HTs := hide (show ∀ s, st = some s → genZ zs s = gs from fun s e => by rw [hgs, hY, e]; rfl)
        have HYst := hide hY
        rw [← hY] at K3
        have hYl : Y.length = 68 := by rw [hY]; exact recZ_len _ _
        clear hY
        obtain ⟨w4, hw4⟩ : ∃ w4, w4 = (w3.alloc (.cells Tryd.zeroCells28 28)).setRow w3.heap.size (cellsI X) := ⟨_, rfl⟩
        have K4 := hide (show Blk w4 w3.heap.size (cellsI X) 28 ∧ Blk w4 gb (cellsI Y) 28 ∧ Blk w4 w.heap.size (cellsI noFs) 28 ∧ Below w.heap.size w w4 from by
          rw [hw4]
          have h1 := K3.out.1.lt
          have h2 := K3.out.2.1.lt
          exact ⟨(Blk.new w3 Tryd.zeroCells28 28).row _, (setRow_block _ _ _ _ (by omega)).trans (K3.out.1.alloc _), (setRow_block _ _ _ _ (by omega)).trans (K3.out.2.1.alloc _), below_setRow (K3.out.2.2.alloc K3.out.2.2.size _) K3.out.2.2.size _⟩)
        have hg3 := K3.out.1.lt
        have hg4 := K3.out.2.2.size
        have HW4 := hide hw4
        clear hw4 K3
        have c4 : w4.cell? ⟨w3.heap.size, 1, none⟩ = some (.int .i64 bl) := by rw [← HBl.out]; exact (K4.out.1.cell 1).trans (cellsI_get X 1 (by rw [HD.out]; omega))
        have d4 : w4.cell? ⟨w3.heap.size, 0, none⟩ = some (.int .i64 gn) := by rw [← HGn.out]; exact (K4.out.1.cell 0).trans (cellsI_get X 0 (by rw [HD.out]; omega))
        have d5 : w4.cell? ⟨gb, 0, none⟩ = some (.int .i64 gs) := by rw [hgs]; exact (K4.out.2.1.cell 0).trans (cellsI_get Y 0 (by omega))
        clear hgs hYl
        by_cases hcd : cd = 0
        · have hq1 : (cd == 0) = true := by simp [hcd]
          by_cases hbl : bl = (n : Int)
          · have hq2 : (bl == (n : Int)) = true := by simp [hbl]
            have HG1 := hide (show goodZ zs k = true from by rw [HGd.out, decide_eq_true hcd, decide_eq_true hbl]; rfl)
            clear hcd hbl
            cases st with
            | none =>
              have hf0 : foundZ none = false := rfl
              have HN2 := hide (show chz zs (k + 1) = some k from by rw [HNx.out, HTk.out, HG1.out]; rfl)
              clear HNx HTk HGd
              go_wp2_with (first | (refine wpList_store_row rfl 28 _ _ rfl w3.heap.size (cellsI X) rfl rfl 28 _ (Blk.new w3 Tryd.zeroCells28 28) (by rw [HZ.out]; exact info68) (by rw [HZ.out]; rfl) (cellsI_one _) ?_; rw [← HW4.out]) | (refine wpList_load_row rfl 28 _ rfl w3.heap.size rfl 28 (cellsI X) (0, 0) _ K4.out.1 Tryd.underlying28 rfl (by rw [HZ.out]; exact info68) ?_) | (refine wpList_store_row rfl 28 _ _ rfl gb (cellsI X) rfl rfl 28 _ K4.out.2.1 (by rw [HZ.out]; exact info68) (by rw [HZ.out, HYZ.out]) (cellsI_one _) ?_))
              go_roundw
              case rel => exact ⟨k + 1, by omega, by go_num, by rw [HN2.out]; rfl, by rw [HN2.out]; rfl, by rw [HN2.out, HRz.out]; exact K4.out.2.1.row _, (setRow_block _ _ _ _ (by omega)).trans K4.out.2.2.1, below_setRow K4.out.2.2.2 (by omega) _⟩
              case measure => simp [intOf]; omega
            | some s =>
              have hf0 : foundZ (some s) = true := rfl
              by_cases hgt : gs < gn
              · have hq3 : decide (gs < gn) = true := by simp [hgt]
                have HN2 := hide (show chz zs (k + 1) = some k from by rw [HNx.out, HTk.out, HG1.out]; simp only [HTs.out s rfl, hq3]; rfl)
                clear HNx HTk HGd
                go_wp2_with (first | (refine wpList_store_row rfl 28 _ _ rfl w3.heap.size (cellsI X) rfl rfl 28 _ (Blk.new w3 Tryd.zeroCells28 28) (by rw [HZ.out]; exact info68) (by rw [HZ.out]; rfl) (cellsI_one _) ?_; rw [← HW4.out]) | (refine wpList_load_row rfl 28 _ rfl w3.heap.size rfl 28 (cellsI X) (0, 0) _ K4.out.1 Tryd.underlying28 rfl (by rw [HZ.out]; exact info68) ?_) | (refine wpList_store_row rfl 28 _ _ rfl gb (cellsI X) rfl rfl 28 _ K4.out.2.1 (by rw [HZ.out]; exact info68) (by rw [HZ.out, HYZ.out]) (cellsI_one _) ?_))
                go_roundw
                case rel => exact ⟨k + 1, by omega, by go_num, by rw [HN2.out]; rfl, by rw [HN2.out]; rfl, by rw [HN2.out, HRz.out]; exact K4.out.2.1.row _, (setRow_block _ _ _ _ (by omega)).trans K4.out.2.2.1, below_setRow K4.out.2.2.2 (by omega) _⟩
                case measure => simp [intOf]; omega
              · have hq3 : decide (gs < gn) = false := by simp; omega
                have HN2 := hide (show chz zs (k + 1) = some s from by rw [HNx.out, HTk.out, HG1.out]; simp only [HTs.out s rfl, hq3]; rfl)
                clear HNx HTk HGd
                go_wp2_with (refine wpList_store_row rfl 28 _ _ rfl w3.heap.size (cellsI X) rfl rfl 28 _ (Blk.new w3 Tryd.zeroCells28 28) (by rw [HZ.out]; exact info68) (by rw [HZ.out]; rfl) (cellsI_one _) ?_; rw [← HW4.out])
                go_roundw
                case rel => exact ⟨k + 1, by omega, by go_num, (by first | (rw [HN2.out]; done) | (rw [HN2.out]; rfl)), (by first | (rw [HN2.out]; done) | (rw [HN2.out]; rfl)), (by rw [HN2.out, ← HYst.out]; exact K4.out.2.1), K4.out.2.2.1, K4.out.2.2.2⟩
                case measure => simp [intOf]; omega
          · have hq2 : (bl == (n : Int)) = false := by simp [hbl]
            have HN2 := hide (show chz zs (k + 1) = st from by rw [HNx.out, HTk.out, HGd.out, decide_eq_false hbl, Bool.and_false, Bool.false_and]; rfl)
            clear HNx HTk HGd
            go_wp2_with (refine wpList_store_row rfl 28 _ _ rfl w3.heap.size (cellsI X) rfl rfl 28 _ (Blk.new w3 Tryd.zeroCells28 28) (by rw [HZ.out]; exact info68) (by rw [HZ.out]; rfl) (cellsI_one _) ?_; rw [← HW4.out])
            go_roundw
            case rel => exact ⟨k + 1, by omega, by go_num, (by first | (rw [HN2.out]; done) | (rw [HN2.out]; rfl)), (by first | (rw [HN2.out]; done) | (rw [HN2.out]; rfl)), (by rw [HN2.out, ← HYst.out]; exact K4.out.2.1), K4.out.2.2.1, K4.out.2.2.2⟩
            case measure => simp [intOf]; omega
        · have hq1 : (cd == 0) = false := by simp [hcd]
          have HN2 := hide (show chz zs (k + 1) = st from by rw [HNx.out, HTk.out, HGd.out, decide_eq_false hcd, Bool.false_and, Bool.false_and]; rfl)
          clear HNx HTk HGd
          go_wp2_with (refine wpList_store_row rfl 28 _ _ rfl w3.heap.size (cellsI X) rfl rfl 28 _ (Blk.new w3 Tryd.zeroCells28 28) (by rw [HZ.out]; exact info68) (by rw [HZ.out]; rfl) (cellsI_one _) ?_; rw [← HW4.out])
          go_roundw
          case rel => exact ⟨k + 1, by omega, by go_num, (by first | (rw [HN2.out]; done) | (rw [HN2.out]; rfl)), (by first | (rw [HN2.out]; done) | (rw [HN2.out]; rfl)), (by rw [HN2.out, ← HYst.out]; exact K4.out.2.1), K4.out.2.2.1, K4.out.2.2.2⟩
          case measure => simp [intOf]; omega
      · have hk2 : k = 2 := by omega
        subst hk2
        have HS2 := HS
        cases hst : chz zs 2 with
        | none =>
          have HA := hide (show choR zs = noFs ∧ choS zs = 0 ∧ choC zs = 21 from by unfold choR choS choC; rw [HS2.out, hst]; exact ⟨rfl, rfl, rfl⟩)
          have hf0 : foundZ none = false := rfl
          clear hst
          go_wp2_with (refine wpList_store_row rfl 28 _ _ rfl w.heap.size (cellsI noFs) rfl rfl 28 _ HK.out.2.1 info68 rfl (cellsI_one _) ?_)
          refine bodyPost_ret (v := .tuple #[.agg (cellsI noFs), .int .i64 0, .int .i64 21]) ?_ rfl ⟨by rw [HA.out.1, HA.out.2.1, HA.out.2.2], below_setRow HK.out.2.2 (Nat.le_refl _) _⟩
          exact results_rtt rfl _ _ w.heap.size 28 (cellsI noFs) (0, 0) _ _ _ rfl rfl rfl (HK.out.2.1.row _) Tryd.underlying28 rfl info68
        | some s =>
          have HA := hide (show choR zs = decFs (blkZ zs s) ∧ choS zs = (s : Int) ∧ choC zs = 0 from by unfold choR choS choC; rw [HS2.out, hst]; exact ⟨rfl, rfl, rfl⟩)
          have hf0 : foundZ (some s) = true := rfl
          have hs0 : slotZ (some s) = (s : Int) := rfl
          have KB := hide (show Blk wr gb (cellsI (decFs (blkZ zs s))) 28 from by have h1 := HK.out.1; rw [hst] at h1; exact h1)
          have HZ := hide (show (cellsI (decFs (blkZ zs s))).size = 68 from by rw [cellsI_size]; exact decFs_len _)
          clear hst
          go_wp2_with (first | (refine wpList_load_row rfl 28 _ rfl gb rfl 28 (cellsI (decFs (blkZ zs s))) (0, 0) _ KB.out Tryd.underlying28 rfl (by rw [HZ.out]; exact info68) ?_) | (refine wpList_store_row rfl 28 _ _ rfl w.heap.size (cellsI (decFs (blkZ zs s))) rfl rfl 28 _ HK.out.2.1 (by rw [HZ.out]; exact info68) (by rw [HZ.out]; rfl) (cellsI_one _) ?_))
          refine bodyPost_ret (v := .tuple #[.agg (cellsI (decFs (blkZ zs s))), .int .i64 (s : Int), .int .i64 0]) ?_ rfl ⟨by rw [HA.out.1, HA.out.2.1, HA.out.2.2], below_setRow HK.out.2.2 (Nat.le_refl _) _⟩
          exact results_rtt rfl _ _ w.heap.size 28 (cellsI (decFs (blkZ zs s))) (0, 0) _ _ _ rfl rfl rfl (HK.out.2.1.row _) Tryd.underlying28 rfl (by rw [HZ.out]; exact info68)
end Go.Proofs.YtjlmeggbgfpilaaDoor

namespace Go.Proofs.YtjlmeggbgfpilaaDoor
set_option linter.unusedVariables false
set_option linter.unusedSimpArgs false
open Go.RowKit

theorem choR_fs (zs : List Int) : ∃ gen bl cu ck op ev lg s1 ds1 p1 q1 s2 ds2 p2 q2 sn, ds1.length = 12 ∧ ds2.length = 12 ∧ sn.length = 31 ∧ choR zs = fsI gen bl cu ck op ev lg s1 ds1 p1 q1 s2 ds2 p2 q2 sn := by
  have h0 : ∃ gen bl cu ck op ev lg s1 ds1 p1 q1 s2 ds2 p2 q2 sn, ds1.length = 12 ∧ ds2.length = 12 ∧ sn.length = 31 ∧ noFs = fsI gen bl cu ck op ev lg s1 ds1 p1 q1 s2 ds2 p2 q2 sn := ⟨0, 0, 0, 0, 0, 0, 0, 0, List.replicate 12 0, 0, 0, 0, List.replicate 12 0, 0, 0, List.replicate 31 0, rfl, rfl, rfl, rfl⟩
  unfold choR
  split
  · split
    · exact h0
    · exact decFs_fs _
  · exact h0
set_option maxRecDepth 100000 in
set_option maxHeartbeats 2000000 in
theorem lawCho (v0 : Value) (ws : List Int) (w : World) (h : Rd .u8 w v0 ws) (hbd : ∀ z ∈ ws, 0 ≤ z ∧ z < 256) (hg : ErrT w) (hL : LetF w) :
    Calls Tryd.prog 3 #[v0] w fun e w' => e = .returned (.bool true) ∧ Below w.heap.size w w' := by
  have hm := h.len
  unfold maxLen at hm
  have hsh : ∃ a cap, v0 = .slice a ws.length cap := by obtain ⟨a, cap, h1, _⟩ := h; exact ⟨a, cap, h1⟩
  obtain ⟨a0, cap0, rfl⟩ := hsh
  have H := hide (And.intro h hg)
  have HLt := hide hL
  have HB := hide hbd
  clear h hg hbd hL
  by_cases hbig : (1048576 : Int) < (ws.length : Int)
  · go_enter Tryd.func3, Tryd.ntmps3
    go_wp2
    go_ret
    exact ⟨rfl, Below.refl _ _⟩
  · have hsm : ws.length ≤ 1048576 := by omega
    clear hbig
    have HS := hide (fun (v : Value) (w : World) (hr : Rd .u8 w v ws) => specCh_any v ws w hr HB.out (by omega))
    have HI := hide (fun (v : Value) (w : World) (hr : Rd .u8 w v ws) (hg : ErrT w) (hL : LetF w) => implCh_any v ws w hr HB.out (by omega) hg hL)
    have HR := hide (choR_fs ws)
    generalize choR ws = R at HS HI HR
    generalize choS ws = sl at HS HI
    generalize choC ws = c at HS HI
    obtain ⟨gen, bl, cu, ck, op, ev, lg, s1, ds1, p1, q1, s2, ds2, p2, q2, sn, hd1, hd2, hsn, hR⟩ := HR.out
    have HZ := hide (show (cellsI R).size = 68 from by rw [hR, cellsI_size]; exact fsI_len _ _ _ _ _ _ _ _ _ _ _ _ _ _ _ _ hd1 hd2 hsn)
    have HQ := hide (show ∀ w : World, Calls Tryd.prog 7 #[.agg (cellsI R), .agg (cellsI R)] w fun e w' => e = .returned (.bool true) ∧ Below w.heap.size w w' from fun w => by rw [hR]; exact eqFs_same gen bl cu ck op ev lg s1 ds1 p1 q1 s2 ds2 p2 q2 sn w hd1 hd2 hsn)
    have hcc : (c != c) = false := by simp
    have hss : (sl != sl) = false := by simp
    clear hR hd1 hd2 hsn HR
    go_enter Tryd.func3, Tryd.ntmps3
    go_wp2_with fail
    refine (toByteS_any _ ws _ H.out.1 (by omega)).mono ?_
    rintro e w1 ⟨v1, rfl, o1, b1⟩
    have R1 := hide (Rd.own o1)
    have B1 := hide b1
    clear o1 b1
    go_wp2_with fail
    refine (HS.out v1 _ R1.out).mono ?_
    rintro e w2 ⟨rfl, b2⟩
    have B2 := hide (B1.out.trans (b2.mono B1.out.size))
    clear b2 R1 B1
    have K2 := hide (show Blk ((w2.alloc (.cells Tryd.zeroCells28 28)).setRow w2.heap.size (cellsI R)) w2.heap.size (cellsI R) 28 ∧ Below w.heap.size w ((w2.alloc (.cells Tryd.zeroCells28 28)).setRow w2.heap.size (cellsI R)) from ⟨(Blk.new w2 Tryd.zeroCells28 28).row _, below_setRow (B2.out.alloc B2.out.size _) B2.out.size _⟩)
    go_wp2_with (first | (refine wpList_store_row rfl 28 _ _ rfl w2.heap.size (cellsI R) rfl rfl 28 _ (Blk.new w2 Tryd.zeroCells28 28) (by rw [HZ.out]; exact info68) (by rw [HZ.out]; rfl) (cellsI_one _) ?_) | (go_at_call 5; fail))
    generalize hW3 : ((w2.alloc (.cells Tryd.zeroCells28 28)).setRow w2.heap.size (cellsI R)) = w3 at K2 ⊢
    clear hW3
    refine (toByteS_any _ ws _ (H.out.1.below K2.out.2) (by omega)).mono ?_
    rintro e w4 ⟨x0, rfl, o4, b4⟩
    have X4 := hide o4
    have K4 := hide (And.intro (K2.out.1.below b4 K2.out.1.lt) (K2.out.2.trans (b4.mono K2.out.2.size)))
    clear o4 b4 K2
    go_wp2_with fail
    refine (HI.out x0 _ (Rd.own X4.out) (H.out.2.below K4.out.2) (HLt.out.below K4.out.2)).mono ?_
    rintro e w5 ⟨rfl, b5⟩
    have X5 := hide (own_below X4.out b5)
    have K5 := hide (And.intro (K4.out.1.below b5 K4.out.1.lt) (K4.out.2.trans (b5.mono K4.out.2.size)))
    clear b5 K4 X4
    have hlt5 := K5.out.1.lt
    have K6 := hide (show Blk ((w5.alloc (.cells Tryd.zeroCells28 28)).setRow w5.heap.size (cellsI R)) w5.heap.size (cellsI R) 28 ∧ Blk ((w5.alloc (.cells Tryd.zeroCells28 28)).setRow w5.heap.size (cellsI R)) w2.heap.size (cellsI R) 28 ∧ Below w.heap.size w ((w5.alloc (.cells Tryd.zeroCells28 28)).setRow w5.heap.size (cellsI R)) ∧ Below w5.heap.size w5 ((w5.alloc (.cells Tryd.zeroCells28 28)).setRow w5.heap.size (cellsI R)) from ⟨(Blk.new w5 Tryd.zeroCells28 28).row _, (setRow_block _ _ _ _ (by omega)).trans (K5.out.1.alloc _), below_setRow (K5.out.2.alloc K5.out.2.size _) K5.out.2.size _, below_setRow ((Below.refl _ _).alloc (Nat.le_refl _) _) (Nat.le_refl _) _⟩)
    go_wp2_with (first | (refine wpList_store_row rfl 28 _ _ rfl w5.heap.size (cellsI R) rfl rfl 28 _ (Blk.new w5 Tryd.zeroCells28 28) (by rw [HZ.out]; exact info68) (by rw [HZ.out]; rfl) (cellsI_one _) ?_) | (refine wpList_load_row rfl 28 _ rfl w5.heap.size rfl 28 (cellsI R) (0, 0) _ K6.out.1 Tryd.underlying28 rfl (by rw [HZ.out]; exact info68) ?_) | (refine wpList_load_row rfl 28 _ rfl w2.heap.size rfl 28 (cellsI R) (0, 0) _ K6.out.2.1 Tryd.underlying28 rfl (by rw [HZ.out]; exact info68) ?_) | (go_at_call 7; fail))
    have X6 := hide (own_below X5.out K6.out.2.2.2)
    have B6 := hide K6.out.2.2.1
    generalize hW6 : ((w5.alloc (.cells Tryd.zeroCells28 28)).setRow w5.heap.size (cellsI R)) = w6 at X6 B6 ⊢
    clear hW6 K6 X5
    refine (HQ.out _).mono ?_
    rintro e w7 ⟨rfl, b7⟩
    have X7 := hide (own_below X6.out b7)
    have B7 := hide (B6.out.trans (b7.mono B6.out.size))
    clear b7 X6 B6
    go_wp2_with fail
    refine (toByteS_any _ ws _ (H.out.1.below B7.out) (by omega)).mono ?_
    rintro e w8 ⟨t0, rfl, o8, b8⟩
    have T8 := hide (Rd.own o8)
    have X8 := hide (own_below X7.out b8)
    have B8 := hide (B7.out.trans (b8.mono B7.out.size))
    clear o8 b8 X7 B7
    go_wp2_with fail
    refine (eqByteS_same x0 t0 ws _ (Rd.own X8.out) T8.out).mono ?_
    rintro e w9 ⟨rfl, b9⟩
    have B9 := hide (B8.out.trans (b9.mono B8.out.size))
    clear b9 X8 B8 T8
    go_wp2
    go_ret
    exact ⟨rfl, B9.out⟩
end Go.Proofs.YtjlmeggbgfpilaaDoor
