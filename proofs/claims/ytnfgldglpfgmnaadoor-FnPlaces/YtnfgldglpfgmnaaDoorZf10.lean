/- The model's small functions on trees. Structs and arrays of integers by value: a copy of twelve, a copy of a root. A copy of a root: toRoot. The model's look at a root: l02Pointer, l02Pointers, l02Root. -/
import Derived.Test.YtnfgldglpfgmnaaDoorZf03
import Derived.Test.YtnfgldglpfgmnaaDoorZf09
import Derived.Test.YtnfgldglpfgmnaaDoorZf01
import Derived.Test.YtnfgldglpfgmnaaDoorRows
import Derived.Test.YtnfgldglpfgmnaaDoorZf04
import Derived.WalkLawsBesides
import Derived.Deep.MidRow
import Derived.Deep.WholeRow
import Derived.Laws.CopyOwn
import Derived.Test.YtnfgldglpfgmnaaDoorZf07
import Derived.Test.YtnfgldglpfgmnaaDoorZf08
import Derived.Test.YtnfgldglpfgmnaaDoorZf05
namespace Go.Proofs.YtnfgldglpfgmnaaDoor
set_option linter.unusedVariables false
set_option linter.unusedSimpArgs false
open Go.RowKit

theorem rd_shapeT {k : IntKind} {w : World} {v : Value} {zs : List Int} (h : Rd k w v zs) : ∃ a cap, v = .slice a zs.length cap := by
  rcases h.parts with ⟨a, cap, e, _⟩ | ⟨b, off, cap, e, _⟩
  · exact ⟨a, cap, e⟩
  · exact ⟨_, cap, e⟩

/-- The bytes of block p of an image. -/
def blkP (zs : List Int) (p : Int) : List Int := (zs.drop (p.toNat * 512)).take 512
/-- Word k of block p. -/
def wrdP (zs : List Int) (p : Int) (k : Nat) : Int := wordAt (blkP zs p) k
theorem wrd_row (zs : List Int) (p : Int) (hl : (blkP zs p).length = 512) : decW (blkP zs p) = (List.range 128).map (wrdP zs p) := by
  unfold decW decTo
  rw [if_pos hl]
  rfl
theorem good_pos {n : Nat} {p : Int} (h : goodP n p = true) (h0 : p ≠ 0) : 2 ≤ p ∧ p < (n : Int) := by
  unfold goodP at h
  simp [h0] at h
  exact h
set_option maxRecDepth 100000 in
set_option maxHeartbeats 1000000 in
theorem good_any (v : Value) (zs : List Int) (p : Int) (w : World) (h : Rd .u8 w v zs) (h1 : zs.length ≤ 1048576) :
    Calls Tryd.prog 56 #[v, .int .i64 p] w fun e w' => e = .returned (.bool (goodP (zs.length / 512) p)) ∧ w' = w := by
  obtain ⟨a, cap, rfl⟩ := rd_shapeT h
  clear h
  obtain ⟨n, hn⟩ : ∃ n : Nat, (zs.length : Int) / 512 = (n : Int) := ⟨zs.length / 512, by omega⟩
  have HN := hide (show zs.length / 512 = n by omega)
  by_cases h0 : p = 0
  · subst h0
    go_enter Tryd.func56, Tryd.ntmps56
    go_wp2
    go_ret
    exact ⟨by rw [good_zero]; rfl, rfl⟩
  · by_cases h2 : 2 ≤ p
    · by_cases h3 : p < (n : Int)
      · go_enter Tryd.func56, Tryd.ntmps56
        go_wp2
        go_ret
        exact ⟨by rw [HN.out]; unfold goodP; simp [h0, h2, h3], rfl⟩
      · go_enter Tryd.func56, Tryd.ntmps56
        go_wp2
        go_ret
        exact ⟨by rw [HN.out]; unfold goodP; simp [h0, h2, h3], rfl⟩
    · have hb : (p == 0) = false := by simp [h0]
      have h5 : ¬ (2 ≤ p) := h2
      have HF := hide (show goodP (zs.length / 512) p = false by unfold goodP; rw [decide_eq_false h5]; simp [h0])
      go_enter Tryd.func56, Tryd.ntmps56
      go_wp2
      go_ret
      exact ⟨by rw [HF.out]; rfl, rfl⟩
set_option maxRecDepth 100000 in
theorem count3_any (s : Nat) (w : World) (hs : s ≤ 1099511627776) :
    Calls Tryd.prog 58 #[.int .i64 (s : Int)] w fun e w' => e = .returned (.int .i64 (((s + 511) / 512 : Nat) : Int)) ∧ w' = w := by
  obtain ⟨n, hn⟩ : ∃ n : Nat, (s + 511) / 512 = n := ⟨_, rfl⟩
  have hn2 : ((s : Int) + 512 - 1) / 512 = (n : Int) := by omega
  have hn3 : ((s : Int) + 511) / 512 = (n : Int) := by omega
  rw [hn]
  go_enter Tryd.func58, Tryd.ntmps58
  go_wp2
  go_ret
  exact ⟨by rw [← hn2]; rfl, rfl⟩
set_option maxRecDepth 100000 in
set_option maxHeartbeats 1000000 in
theorem words3_any (v : Value) (zs : List Int) (p : Int) (w : World) (h : Rd .u8 w v zs) (h1 : zs.length ≤ 1048576) (hbd : ∀ z ∈ zs, 0 ≤ z ∧ z < 256) (hp : goodP (zs.length / 512) p = true) :
    Calls Tryd.prog 57 #[v, .int .i64 p] w fun e w' => ∃ v', e = .returned v' ∧ w'.ownsRow w.heap.size 3 1 v' 128 (((List.range 128).map (hwP (wrdP zs) p)).map (Value.int .i64)) ∧ Below w.heap.size w w' := by
  obtain ⟨i0, hi, hz0, hz1, hz2⟩ := info_parts infoI64
  by_cases h0 : p = 0
  · subst h0
    obtain ⟨a, cap, rfl⟩ := rd_shapeT h
    clear h
    go_enter Tryd.func57, Tryd.ntmps57
    go_wp2_with (refine wpList_make_full _ rfl _ _ 38 rfl w.heap.size 3 i0 (.int .i64 0) 1 Tryd.underlying38 hi hz0 hz1 .i64 .i64 128 128 128 rfl rfl rfl rfl (by rw [hz2]; omega) (by unfold maxLen; omega) (Nat.le_refl _) ?_; intro w3 o3 g3; rw [made_one _ _ rfl] at o3; have O3 := hide (And.intro o3 g3); clear o3 g3)
    go_ret
    have e : ((List.range 128).map (hwP (wrdP zs) 0)).map (Value.int .i64) = List.replicate 128 (Value.int .i64 0) := by
      rw [show hwP (wrdP zs) 0 = fun _ => 0 from funext (fun k => hwP_zero k)]
      rfl
    refine ⟨_, rfl, ?_, (Below.refl _ _).grown O3.out.2 (Nat.le_refl _) (fun k e => by cases e)⟩
    rw [e]
    exact O3.out.1
  · obtain ⟨h2, h3⟩ := good_pos hp h0
    obtain ⟨q, rfl⟩ : ∃ q : Nat, p = (q : Int) := ⟨p.toNat, by omega⟩
    obtain ⟨b, off, cap, rfl, hb, hlc, hcm, hcell⟩ := h.partsC (by omega)
    obtain ⟨A, hA⟩ : ∃ A : Nat, A = q * 512 := ⟨_, rfl⟩
    have hA1 : (q : Int) * 512 = (A : Int) := by omega
    obtain ⟨B, hB⟩ : ∃ B : Nat, B = A + 512 := ⟨_, rfl⟩
    have hA2 : ((q : Int) + 1) * 512 = (B : Int) := by omega
    have hAB : B ≤ zs.length := by omega
    have hl5 : (blkP zs (q : Int)).length = 512 := by unfold blkP; rw [List.length_take, List.length_drop, Int.toNat_natCast]; omega
    have HP := hide (show Rd .u8 w (.slice (some ⟨b, off + A, none⟩) 512 (cap - A)) (blkP zs (q : Int)) from by unfold blkP; rw [Int.toNat_natCast, ← hA]; exact Rd.cut2 A 512 h (by omega) (by omega))
    have HE := hide (show decW (blkP zs (q : Int)) = (List.range 128).map (hwP (wrdP zs) (q : Int)) from by rw [wrd_row zs _ hl5, show hwP (wrdP zs) (q : Int) = wrdP zs (q : Int) from funext (fun k => hwP_some h0 k)])
    have HBd := hide (show ∀ z ∈ blkP zs (q : Int), 0 ≤ z ∧ z < 256 from fun z hz => hbd z (List.mem_of_mem_drop (List.mem_of_mem_take hz)))
    have hB3 : (A : Int) ≤ (B : Int) := by omega
    have hB4 : (B : Int) ≤ (cap : Int) := by omega
    have hB5 : B - A = 512 := by omega
    have hq : (q : Int) < 4096 := by omega
    clear h hbd hcell hl5 hA hB
    go_enter Tryd.func57, Tryd.ntmps57
    go_wp2_with fail
    refine (specD_any _ (blkP zs (q : Int)) w HP.out HBd.out).mono ?_
    rintro e w1 ⟨v1, rfl, o1, b1⟩
    rw [HE.out] at o1
    have O1 := hide (And.intro o1 b1)
    clear o1 b1
    go_wp2
    go_ret
    exact ⟨_, rfl, by have := O1.out.1; simpa using this, O1.out.2⟩
end Go.Proofs.YtnfgldglpfgmnaaDoor

namespace Go.Proofs.YtnfgldglpfgmnaaDoor
set_option linter.unusedVariables false
set_option linter.unusedSimpArgs false
open Go.RowKit

theorem info12 : (Tryd.prog.info? 32).map (·.size) = some 12 := by kernel_rfl
theorem infoL15 : (Tryd.prog.info? 43).map (·.size) = some 15 := by kernel_rfl
theorem info15 : (Tryd.prog.info? 34).map (·.size) = some 15 := by kernel_rfl

set_option maxRecDepth 100000 in
set_option maxHeartbeats 400000 in
theorem toIntA12_any (ds : List Int) (w : World) (hd : ds.length = 12) :
    Calls Tryd.prog 36 #[.agg (cellsI ds)] w fun e w' => e = .returned (.agg (cellsI ds)) ∧ Below w.heap.size w w' := by
  have HD := hide hd
  clear hd
  go_enter Tryd.func36, Tryd.ntmps36
  go_wp2
  go_loopw [4] (fun i wr => ∃ k : Nat, k ≤ 12 ∧ i = .int .i64 k ∧ Blk wr w.heap.size (cellsI ds) 32 ∧ Blk wr (w.heap.size + 1) (cellsI (List.replicate 12 0)) 32 ∧ Blk wr (w.heap.size + 1 + 1) (cellsI (ds.take k ++ List.replicate (12 - k) 0)) 32 ∧ Below w.heap.size w wr) (fun i _ => 12 - (intOf i).toNat)
  case atStart =>
    refine ⟨0, by omega, rfl, ((Blk.new w _ _).alloc _).alloc _, ?_, ?_, (((Below.refl _ _).alloc (Nat.le_refl _) _).alloc (by simp) _).alloc (by simp; omega) _⟩
    · have h := (Blk.new (w.alloc (.cells (cellsI ds) 32)) (cellsI (List.replicate 12 0)) 32).alloc (.cells (cellsI (List.replicate 12 0)) 32)
      rw [World.size_alloc] at h
      exact h
    · have h := Blk.new ((w.alloc (.cells (cellsI ds) 32)).alloc (.cells (cellsI (List.replicate 12 0)) 32)) (cellsI (List.replicate 12 0)) 32
      rw [World.size_alloc, World.size_alloc] at h
      exact h
  case round =>
    obtain ⟨k, hk, rfl, h1, h2, h3, hb⟩ := hrel
    by_cases hlt : k < 12
    · have c1 := h1.cell k
      rw [cellsI_get ds k (by rw [HD.out]; exact hlt)] at c1
      obtain ⟨old, c3⟩ : ∃ u, wr.cell? ⟨w.heap.size + 1 + 1, k, none⟩ = some u := by
        rw [h3.cell k]
        exact ⟨_, Array.getElem?_eq_getElem (by rw [cellsI_size]; have := HD.out; simp; omega)⟩
      have f3 := h3.frozen k
      have HS := hide (set_cells ds k 12 hlt HD.out)
      generalize ds.getD k 0 = z at c1 HS
      have HW := hide (show Blk (wr.setCell ⟨w.heap.size + 1 + 1, k, none⟩ (.int .i64 z)) w.heap.size (cellsI ds) 32 ∧ Blk (wr.setCell ⟨w.heap.size + 1 + 1, k, none⟩ (.int .i64 z)) (w.heap.size + 1) (cellsI (List.replicate 12 0)) 32 ∧ Blk (wr.setCell ⟨w.heap.size + 1 + 1, k, none⟩ (.int .i64 z)) (w.heap.size + 1 + 1) (cellsI (ds.take (k + 1) ++ List.replicate (12 - (k + 1)) 0)) 32 ∧ Below w.heap.size w (wr.setCell ⟨w.heap.size + 1 + 1, k, none⟩ (.int .i64 z)) from by
        refine ⟨h1.other _ _ (by show _ ≠ w.heap.size + 1 + 1; omega), h2.other _ _ (by show _ ≠ w.heap.size + 1 + 1; omega), ?_, hb.setCell (by show _ ≤ w.heap.size + 1 + 1; omega) _⟩
        rw [← HS.out]
        exact h3.set k _)
      clear h1 h2 h3 hb
      go_wp2
      go_roundw
      case rel => exact ⟨k + 1, by omega, by go_num, HW.out.1, HW.out.2.1, HW.out.2.2.1, HW.out.2.2.2⟩
      case measure => simp [intOf]; omega
    · have hk12 : k = 12 := by omega
      subst hk12
      rw [List.take_of_length_le (by rw [HD.out]; omega), Nat.sub_self, List.replicate_zero, List.append_nil] at h3
      have hsz : (cellsI ds).size = 12 := by rw [cellsI_size]; exact HD.out
      have HB := hide (And.intro h2 (And.intro h3 hb))
      have HZ := hide hsz
      clear h1 h2 h3 hb hsz
      go_wp2_with (first | (refine wpList_load_row rfl 32 _ rfl (w.heap.size + 1 + 1) rfl 32 (cellsI ds) (0, 0) _ HB.out.2.1 Tryd.underlying32 rfl (by rw [HZ.out]; exact info12) ?_) | (refine wpList_store_row rfl 32 _ _ rfl (w.heap.size + 1) (cellsI ds) rfl rfl 32 _ HB.out.1 (by rw [HZ.out]; exact info12) (by rw [HZ.out]; rfl) (cellsI_one ds) ?_))
      refine bodyPost_ret (v := .agg (cellsI ds)) ?_ rfl ⟨rfl, ?_⟩
      · exact results_cell_row rfl _ _ (w.heap.size + 1) 32 (cellsI ds) (0, 0) _ rfl (HB.out.1.row _) Tryd.underlying32 rfl (by rw [HZ.out]; exact info12)
      · exact below_setRow HB.out.2.2 (by omega) _
end Go.Proofs.YtnfgldglpfgmnaaDoor

namespace Go.Proofs.YtnfgldglpfgmnaaDoor
set_option linter.unusedVariables false
set_option linter.unusedSimpArgs false
open Go.RowKit

/-- The fifteen integers of a root. -/
def rootI (s : Int) (ds : List Int) (p q : Int) : List Int := s :: (ds ++ [p, q])
theorem rootI_len (s : Int) (ds : List Int) (p q : Int) (hd : ds.length = 12) : (rootI s ds p q).length = 15 := by simp [rootI, hd]
theorem rootI_get13 (s : Int) (ds : List Int) (p q : Int) (hd : ds.length = 12) : (cellsI (rootI s ds p q))[13]? = some (.int .i64 p) := by
  rw [cellsI_get _ _ (by rw [rootI_len s ds p q hd]; omega)]
  match ds, hd with | [_, _, _, _, _, _, _, _, _, _, _, _], _ => rfl
theorem rootI_get14 (s : Int) (ds : List Int) (p q : Int) (hd : ds.length = 12) : (cellsI (rootI s ds p q))[14]? = some (.int .i64 q) := by
  rw [cellsI_get _ _ (by rw [rootI_len s ds p q hd]; omega)]
  match ds, hd with | [_, _, _, _, _, _, _, _, _, _, _, _], _ => rfl
theorem root_build (s : Int) (ds : List Int) (p q : Int) (hd : ds.length = 12) : ((over (s :: List.replicate 14 0) 1 ds).set 13 p).set 14 q = rootI s ds p q := by
  match ds, hd with | [_, _, _, _, _, _, _, _, _, _, _, _], _ => rfl
theorem root_range (s : Int) (ds : List Int) (p q : Int) (hd : ds.length = 12) : ((rootI s ds p q).drop 1).take 12 = ds := by
  match ds, hd with | [_, _, _, _, _, _, _, _, _, _, _, _], _ => rfl

theorem over_at {w2 : World} {b : Nat} {t : TypeId} (s : Int) (ds : List Int) (hd : ds.length = 12) (h : Blk w2 b (cellsI (over (s :: List.replicate 14 0) 1 ds)) t) (k : Nat) (hk : k < 15) : ∃ u, w2.cell? ⟨b, k, none⟩ = some u := by
  rw [h.cell k]
  exact ⟨_, Array.getElem?_eq_getElem (by rw [cellsI_size, over_len _ _ _ (by simp [hd])]; simpa using hk)⟩

set_option maxRecDepth 100000 in
set_option maxHeartbeats 1000000 in
theorem toRoot_any (s : Int) (ds : List Int) (p q : Int) (w : World) (hd : ds.length = 12) :
    Calls Tryd.prog 15 #[.agg (cellsI (rootI s ds p q))] w fun e w' => e = .returned (.agg (cellsI (rootI s ds p q))) ∧ Below w.heap.size w w' := by
  have HD := hide hd
  have c0 : ∀ o1 o2, (((w.alloc (.cells (cellsI (rootI s ds p q)) 43)).alloc o1).alloc o2).cell? ⟨w.heap.size, 0, none⟩ = some (.int .i64 s) := fun o1 o2 => by
    rw [(((Blk.new w _ _).alloc o1).alloc o2).cell 0]; rfl
  clear hd
  go_enter Tryd.func15, Tryd.ntmps15
  go_wp2_with (first
    | (refine wpList_load_mid rfl 32 _ rfl w.heap.size 1 rfl (ds.map (Value.int .i64)) _ (by have h := (((Blk.new w (cellsI (rootI s ds p q)) 43).alloc (.cells (cellsI (List.replicate 15 0)) 34)).alloc (.cells (cellsI (s :: List.replicate 14 0)) 34)).range 1 12 (by rw [rootI_len _ _ _ _ HD.out]; omega); rw [root_range _ _ _ _ HD.out] at h; exact h) Tryd.underlying32 rfl (by rw [List.length_map, HD.out]; exact info12) ?_)
    | (go_at_call 36; fail))
  refine (toIntA12_any ds _ HD.out).mono ?_
  rintro e w1 ⟨rfl, hb1⟩
  have k0 := (((Blk.new w (cellsI (rootI s ds p q)) 43).alloc (.cells (cellsI (List.replicate 15 0)) 34)).alloc (.cells (cellsI (s :: List.replicate 14 0)) 34)).below hb1 (by simp; omega)
  have k1 : Blk w1 (w.heap.size + 1) (cellsI (List.replicate 15 0)) 34 := by
    have h := ((Blk.new (w.alloc (.cells (cellsI (rootI s ds p q)) 43)) (cellsI (List.replicate 15 0)) 34).alloc (.cells (cellsI (s :: List.replicate 14 0)) 34)).below hb1 (by simp)
    rw [World.size_alloc] at h
    exact h
  have k2 : Blk w1 (w.heap.size + 1 + 1) (cellsI (s :: List.replicate 14 0)) 34 := by
    have h := (Blk.new ((w.alloc (.cells (cellsI (rootI s ds p q)) 43)).alloc (.cells (cellsI (List.replicate 15 0)) 34)) (cellsI (s :: List.replicate 14 0)) 34).below hb1 (by simp)
    rw [World.size_alloc, World.size_alloc] at h
    exact h
  have hB : Below w.heap.size w w1 := ((((Below.refl w.heap.size w).alloc (Nat.le_refl _) (.cells (cellsI (rootI s ds p q)) 43)).alloc (by simp) (.cells (cellsI (List.replicate 15 0)) 34)).alloc (by simp; omega) (.cells (cellsI (s :: List.replicate 14 0)) 34)).trans (hb1.mono (by simp; omega))
  have K := hide (And.intro k0 (And.intro k1 (And.intro k2 hB)))
  clear k0 k1 k2 hB hb1 c0
  have K2 := hide (show Blk (w1.setCells (w.heap.size + 1 + 1) 1 (cellsI ds).toList) w.heap.size (cellsI (rootI s ds p q)) 43 ∧ Blk (w1.setCells (w.heap.size + 1 + 1) 1 (cellsI ds).toList) (w.heap.size + 1) (cellsI (List.replicate 15 0)) 34 ∧ Blk (w1.setCells (w.heap.size + 1 + 1) 1 (cellsI ds).toList) (w.heap.size + 1 + 1) (cellsI (over (s :: List.replicate 14 0) 1 ds)) 34 ∧ Below w.heap.size w (w1.setCells (w.heap.size + 1 + 1) 1 (cellsI ds).toList) from
    ⟨Blk.cells_other _ 1 K.out.1 (by omega), Blk.cells_other _ 1 K.out.2.1 (by omega), Blk.cells ds 1 K.out.2.2.1 (by rw [HD.out]; simp), below_cells (by omega) _ 1 K.out.2.2.2⟩)
  have hz15 : (cellsI (rootI s ds p q)).size = 15 := by rw [cellsI_size]; exact rootI_len s ds p q HD.out
  have HZ := hide hz15
  clear hz15
  go_wp2_with (first | (refine wpList_store_mid rfl 32 _ _ rfl (w.heap.size + 1 + 1) 1 (cellsI ds) rfl rfl (K.out.2.2.1.there 1 _ (by rw [cellsI_size, cellsI_size, HD.out]; simp)) (by rw [cellsI_size, HD.out]; exact info12) (cellsI_one ds) ?_; generalize w1.setCells (w.heap.size + 1 + 1) 1 (cellsI ds).toList = w2 at K2 ⊢; have a13 := (K2.out.1.cell 13).trans (rootI_get13 s ds p q HD.out); have a14 := (K2.out.1.cell 14).trans (rootI_get14 s ds p q HD.out); obtain ⟨u13, b13⟩ := over_at s ds HD.out K2.out.2.2.1 13 (by omega); obtain ⟨u14, b14⟩ := over_at s ds HD.out K2.out.2.2.1 14 (by omega); have f13 := K2.out.2.2.1.frozen 13; have f14 := K2.out.2.2.1.frozen 14) | (refine wpList_load_row rfl 34 _ rfl (w.heap.size + 1 + 1) rfl 34 (cellsI (rootI s ds p q)) (0, 0) _ (by have h := (K2.out.2.2.1.set 13 (.int .i64 p)).set 14 (.int .i64 q); rw [cellsI_set, cellsI_set, root_build _ _ _ _ HD.out] at h; exact h) Tryd.underlying34 rfl (by rw [HZ.out]; exact info15) ?_) | (refine wpList_store_row rfl 34 _ _ rfl (w.heap.size + 1) (cellsI (rootI s ds p q)) rfl rfl 34 _ ((K2.out.2.1.other ⟨w.heap.size + 1 + 1, 13, none⟩ (.int .i64 p) (by show w.heap.size + 1 ≠ w.heap.size + 1 + 1; omega)).other ⟨w.heap.size + 1 + 1, 14, none⟩ (.int .i64 q) (by show w.heap.size + 1 ≠ w.heap.size + 1 + 1; omega)) (by rw [HZ.out]; exact info15) (by rw [HZ.out]; rfl) (cellsI_one _) ?_))
  have K3 := (K2.out.2.1.other ⟨w.heap.size + 1 + 1, 13, none⟩ (.int .i64 p) (by show w.heap.size + 1 ≠ w.heap.size + 1 + 1; omega)).other ⟨w.heap.size + 1 + 1, 14, none⟩ (.int .i64 q) (by show w.heap.size + 1 ≠ w.heap.size + 1 + 1; omega)
  refine bodyPost_ret (v := .agg (cellsI (rootI s ds p q))) ?_ rfl ⟨rfl, ?_⟩
  · exact results_cell_row rfl _ _ (w.heap.size + 1) 34 (cellsI (rootI s ds p q)) (0, 0) _ rfl (K3.row _) Tryd.underlying34 rfl (by rw [HZ.out]; exact info15)
  · exact below_setRow ((K2.out.2.2.2.setCell (p := ⟨w.heap.size + 1 + 1, 13, none⟩) (by show _ ≤ w.heap.size + 1 + 1; omega) _).setCell (p := ⟨w.heap.size + 1 + 1, 14, none⟩) (by show _ ≤ w.heap.size + 1 + 1; omega) _) (by omega) _
end Go.Proofs.YtnfgldglpfgmnaaDoor

namespace Go.Proofs.YtnfgldglpfgmnaaDoor
set_option linter.unusedVariables false
set_option linter.unusedSimpArgs false
open Go.RowKit

def ptrB (x n : Int) : Bool := decide (x = 0) || (decide (2 ≤ x) && decide (x < n))
theorem pointer_any (x : Int) (w : World) : Calls Tryd.prog 85 #[.int .i64 x] w fun e w' => e = .returned (.bool (ptrB x 2048)) ∧ w = w' := by
  have HP := hide (show ptrB x 2048 = (decide (x = 0) || (decide (2 ≤ x) && decide (x < 2048))) from rfl)
  by_cases h0 : x = 0
  · subst h0
    go_enter Tryd.func85, Tryd.ntmps85
    go_wp2
    go_ret
    exact ⟨rfl, rfl⟩
  · have hq : (x == 0) = false := by simp [h0]
    have HD := hide (show decide (x = 0) = false from by simp [h0])
    clear h0
    by_cases h2 : 2 ≤ x
    · by_cases h3 : x < 2048
      all_goals
        have HR := hide (show ptrB x 2048 = decide (x < 2048) from by rw [HP.out, HD.out]; simp [h2])
        go_enter Tryd.func85, Tryd.ntmps85
        go_wp2
        go_ret
        exact ⟨ret_bool (by rw [HR.out]; simp; try omega), rfl⟩
    · have hq2 : decide (2 ≤ x) = false := by simp; omega
      have HR := hide (show ptrB x 2048 = false from by rw [HP.out, HD.out, hq2]; rfl)
      go_enter Tryd.func85, Tryd.ntmps85
      go_wp2
      go_ret
      exact ⟨ret_bool (by rw [HR.out]), rfl⟩

set_option maxRecDepth 100000 in
set_option maxHeartbeats 1000000 in
theorem pointers_any (s : Int) (ds : List Int) (p q : Int) (w : World) (hd : ds.length = 12) :
    Calls Tryd.prog 55 #[.agg (cellsI (rootI s ds p q))] w fun e w' => ∃ v', e = .returned v' ∧ w'.ownsRow w.heap.size 3 1 v' 14 ((ds ++ [p, q]).map (Value.int .i64)) ∧ Below w.heap.size w w' := by
  obtain ⟨i0, hi, hz0, hz1, hz2⟩ := info_parts infoI64
  have HD := hide hd
  have kB := Blk.new w (cellsI (rootI s ds p q)) 34
  have h0 := own_empty (w.alloc (.cells (cellsI (rootI s ds p q)) 34)) 3
  rw [World.size_alloc] at h0
  have hr : ∀ j u, (ds.map (Value.int .i64))[j]? = some u → ((w.alloc (.cells (cellsI (rootI s ds p q)) 34)).alloc (.cells #[] 3)).cell? ((⟨w.heap.size, 1, none⟩ : Addr).add j) = some u := by
    intro j u hu
    have h := (kB.alloc (.cells #[] 3)).range 1 12 (by rw [rootI_len _ _ _ _ HD.out]; omega)
    rw [root_range _ _ _ _ HD.out] at h
    rw [Addr.add_mid]
    exact h j u hu
  have hb0 : Below w.heap.size w ((w.alloc (.cells (cellsI (rootI s ds p q)) 34)).alloc (.cells #[] 3)) := ((Below.refl _ _).alloc (Nat.le_refl _) _).alloc (by simp) _
  have K := hide (And.intro h0 (And.intro hr (And.intro hb0 (kB.alloc (.cells #[] 3)))))
  clear hd h0 hr hb0 kB
  go_enter Tryd.func55, Tryd.ntmps55
  go_wp2_with (first | (at_builtin; refine wpList_append_own _ rfl (.tmp 4) (.tmp 6) 38 rfl (w.heap.size + 1) 3 i0 (.int .i64 0) 1 8 Tryd.underlying38 hi hz0 hz1 hz2 rfl (by decide) (.slice (some ⟨w.heap.size + 1, 0, none⟩) 0 0) 0 [] rfl K.out.1 ⟨w.heap.size, 1, none⟩ 12 12 (ds.map (Value.int .i64)) rfl (by rw [List.length_map, HD.out]) K.out.2.1 (ints_oneCell _ _) (by unfold maxLen; omega) (by omega) (by simp) ?_; intro v1 w1 hown1 hgr1 _; have a13 := hgr1.cell (a := ⟨w.heap.size, 13, none⟩) ((K.out.2.2.2.cell 13).trans (rootI_get13 s ds p q HD.out)) (by simp [Value.ownBlock]); have a14 := hgr1.cell (a := ⟨w.heap.size, 14, none⟩) ((K.out.2.2.2.cell 14).trans (rootI_get14 s ds p q HD.out)) (by simp [Value.ownBlock]); have H1 := hide (And.intro hown1 hgr1); clear hown1 hgr1) | (at_builtin; refine wpList_append_own _ rfl (.tmp 8) (.tmp 13) 38 rfl (w.heap.size + 1) 3 i0 (.int .i64 0) 1 8 Tryd.underlying38 hi hz0 hz1 hz2 rfl (by decide) v1 _ _ rfl (H1.out.1.alloc _) ⟨w1.heap.size, 0, none⟩ 2 2 [.int .i64 p, .int .i64 q] rfl rfl (cell_two_new _ _ _ _) (ints_oneCell .i64 [p, q]) (by unfold maxLen; omega) (by omega) (by have := H1.out.2.size; simp at this ⊢; omega) ?_; intro v2 w2 hown2 hgr2 _))
  go_ret
  refine ⟨_, rfl, own_mono (base := w.heap.size + 1) ?_ (by omega), ?_⟩
  · have e : (ds ++ [p, q]).map (Value.int .i64) = [] ++ ds.map (Value.int .i64) ++ [.int .i64 p, .int .i64 q] := by simp
    rw [e]
    exact hown2
  · have hs1 := H1.out.2.size
    have hl1 := H1.out.1.lt
    refine (((K.out.2.2.1.grown H1.out.2 (by simp; omega) (fun k h => by simp [Value.ownBlock] at h; omega)).alloc (by simp at hs1; omega) _).grown hgr2 (by simp at hs1 ⊢; omega) (fun k h => by have := (hl1 k h).1; omega))
end Go.Proofs.YtnfgldglpfgmnaaDoor
