/- The model's small functions on trees. -/
import Derived.Test.YtlegmaadcemgnaaDoorTrC
import Derived.Test.YtlegmaadcemgnaaDoorDecW
namespace Go.Proofs.YtlegmaadcemgnaaDoor
set_option linter.unusedVariables false
set_option linter.unusedSimpArgs false
open Go.RowKit

theorem rd_shapeT {k : IntKind} {w : World} {v : Value} {zs : List Int} (h : Rd k w v zs) : ∃ a cap, v = .slice a zs.length cap := by
  rcases h.parts with ⟨a, cap, e, _⟩ | ⟨b, off, cap, e, _⟩
  · exact ⟨a, cap, e⟩
  · exact ⟨_, cap, e⟩

/-- The bytes of block p of an image. -/
def blkP (zs : List Int) (p : Int) : List Int := (zs.drop (p.toNat * 512)).take 512
/-- Word k of block p. -/
def wrdP (zs : List Int) (p : Int) (k : Nat) : Int := wordAt (blkP zs p) k
theorem wrd_row (zs : List Int) (p : Int) (hl : (blkP zs p).length = 512) : decW (blkP zs p) = (List.range 128).map (wrdP zs p) := by
  unfold decW decTo
  rw [if_pos hl]
  rfl
theorem good_pos {n : Nat} {p : Int} (h : goodP n p = true) (h0 : p ≠ 0) : 2 ≤ p ∧ p < (n : Int) := by
  unfold goodP at h
  simp [h0] at h
  exact h
set_option maxRecDepth 100000 in
set_option maxHeartbeats 1000000 in
theorem good_any (v : Value) (zs : List Int) (p : Int) (w : World) (h : Rd .u8 w v zs) (h1 : zs.length ≤ 1048576) :
    Calls Tryd.prog 56 #[v, .int .i64 p] w fun e w' => e = .returned (.bool (goodP (zs.length / 512) p)) ∧ w' = w := by
  obtain ⟨a, cap, rfl⟩ := rd_shapeT h
  clear h
  obtain ⟨n, hn⟩ : ∃ n : Nat, (zs.length : Int) / 512 = (n : Int) := ⟨zs.length / 512, by omega⟩
  have HN := hide (show zs.length / 512 = n by omega)
  by_cases h0 : p = 0
  · subst h0
    go_enter Tryd.func56, Tryd.ntmps56
    go_wp2
    go_ret
    exact ⟨by rw [good_zero]; rfl, rfl⟩
  · by_cases h2 : 2 ≤ p
    · by_cases h3 : p < (n : Int)
      · go_enter Tryd.func56, Tryd.ntmps56
        go_wp2
        go_ret
        exact ⟨by rw [HN.out]; unfold goodP; simp [h0, h2, h3], rfl⟩
      · go_enter Tryd.func56, Tryd.ntmps56
        go_wp2
        go_ret
        exact ⟨by rw [HN.out]; unfold goodP; simp [h0, h2, h3], rfl⟩
    · have hb : (p == 0) = false := by simp [h0]
      have h5 : ¬ (2 ≤ p) := h2
      have HF := hide (show goodP (zs.length / 512) p = false by unfold goodP; rw [decide_eq_false h5]; simp [h0])
      go_enter Tryd.func56, Tryd.ntmps56
      go_wp2
      go_ret
      exact ⟨by rw [HF.out]; rfl, rfl⟩
set_option maxRecDepth 100000 in
theorem count3_any (s : Nat) (w : World) (hs : s ≤ 1099511627776) :
    Calls Tryd.prog 58 #[.int .i64 (s : Int)] w fun e w' => e = .returned (.int .i64 (((s + 511) / 512 : Nat) : Int)) ∧ w' = w := by
  obtain ⟨n, hn⟩ : ∃ n : Nat, (s + 511) / 512 = n := ⟨_, rfl⟩
  have hn2 : ((s : Int) + 512 - 1) / 512 = (n : Int) := by omega
  have hn3 : ((s : Int) + 511) / 512 = (n : Int) := by omega
  rw [hn]
  go_enter Tryd.func58, Tryd.ntmps58
  go_wp2
  go_ret
  exact ⟨by rw [← hn2]; rfl, rfl⟩
set_option maxRecDepth 100000 in
set_option maxHeartbeats 1000000 in
theorem words3_any (v : Value) (zs : List Int) (p : Int) (w : World) (h : Rd .u8 w v zs) (h1 : zs.length ≤ 1048576) (hbd : ∀ z ∈ zs, 0 ≤ z ∧ z < 256) (hp : goodP (zs.length / 512) p = true) :
    Calls Tryd.prog 57 #[v, .int .i64 p] w fun e w' => ∃ v', e = .returned v' ∧ w'.ownsRow w.heap.size 3 1 v' 128 (((List.range 128).map (hwP (wrdP zs) p)).map (Value.int .i64)) ∧ Below w.heap.size w w' := by
  obtain ⟨i0, hi, hz0, hz1, hz2⟩ := info_parts infoI64
  by_cases h0 : p = 0
  · subst h0
    obtain ⟨a, cap, rfl⟩ := rd_shapeT h
    clear h
    go_enter Tryd.func57, Tryd.ntmps57
    go_wp2_with (refine wpList_make_full _ rfl _ _ 38 rfl w.heap.size 3 i0 (.int .i64 0) 1 Tryd.underlying38 hi hz0 hz1 .i64 .i64 128 128 128 rfl rfl rfl rfl (by rw [hz2]; omega) (by unfold maxLen; omega) (Nat.le_refl _) ?_; intro w3 o3 g3; rw [made_one _ _ rfl] at o3; have O3 := hide (And.intro o3 g3); clear o3 g3)
    go_ret
    have e : ((List.range 128).map (hwP (wrdP zs) 0)).map (Value.int .i64) = List.replicate 128 (Value.int .i64 0) := by
      rw [show hwP (wrdP zs) 0 = fun _ => 0 from funext (fun k => hwP_zero k)]
      rfl
    refine ⟨_, rfl, ?_, (Below.refl _ _).grown O3.out.2 (Nat.le_refl _) (fun k e => by cases e)⟩
    rw [e]
    exact O3.out.1
  · obtain ⟨h2, h3⟩ := good_pos hp h0
    obtain ⟨q, rfl⟩ : ∃ q : Nat, p = (q : Int) := ⟨p.toNat, by omega⟩
    obtain ⟨b, off, cap, rfl, hb, hlc, hcm, hcell⟩ := h.partsC (by omega)
    obtain ⟨A, hA⟩ : ∃ A : Nat, A = q * 512 := ⟨_, rfl⟩
    have hA1 : (q : Int) * 512 = (A : Int) := by omega
    obtain ⟨B, hB⟩ : ∃ B : Nat, B = A + 512 := ⟨_, rfl⟩
    have hA2 : ((q : Int) + 1) * 512 = (B : Int) := by omega
    have hAB : B ≤ zs.length := by omega
    have hl5 : (blkP zs (q : Int)).length = 512 := by unfold blkP; rw [List.length_take, List.length_drop, Int.toNat_natCast]; omega
    have HP := hide (show Rd .u8 w (.slice (some ⟨b, off + A, none⟩) 512 (cap - A)) (blkP zs (q : Int)) from by unfold blkP; rw [Int.toNat_natCast, ← hA]; exact Rd.cut2 A 512 h (by omega) (by omega))
    have HE := hide (show decW (blkP zs (q : Int)) = (List.range 128).map (hwP (wrdP zs) (q : Int)) from by rw [wrd_row zs _ hl5, show hwP (wrdP zs) (q : Int) = wrdP zs (q : Int) from funext (fun k => hwP_some h0 k)])
    have HBd := hide (show ∀ z ∈ blkP zs (q : Int), 0 ≤ z ∧ z < 256 from fun z hz => hbd z (List.mem_of_mem_drop (List.mem_of_mem_take hz)))
    have hB3 : (A : Int) ≤ (B : Int) := by omega
    have hB4 : (B : Int) ≤ (cap : Int) := by omega
    have hB5 : B - A = 512 := by omega
    have hq : (q : Int) < 4096 := by omega
    clear h hbd hcell hl5 hA hB
    go_enter Tryd.func57, Tryd.ntmps57
    go_wp2_with fail
    refine (specD_any _ (blkP zs (q : Int)) w HP.out HBd.out).mono ?_
    rintro e w1 ⟨v1, rfl, o1, b1⟩
    rw [HE.out] at o1
    have O1 := hide (And.intro o1 b1)
    clear o1 b1
    go_wp2
    go_ret
    exact ⟨_, rfl, by have := O1.out.1; simpa using this, O1.out.2⟩
end Go.Proofs.YtlegmaadcemgnaaDoor
