/- Structs and arrays of integers by value: a copy of twelve, a copy of a root. A copy of a root: toRoot. The model's numbers as bytes: l02Put, l02Get. The model's number of at most eight bytes: l02Get. The laws' own helpers over []int: a copy, two held against each other, marks. -/
import Derived.Test.YtplieplmhdfndaaGreatDoorZw01
import Derived.Test.YtplieplmhdfndaaGreatDoorRows
import Derived.Test.YtplieplmhdfndaaGreatDoorZw04
import Derived.WalkLawsBesides
import Derived.Deep.MidRow
import Derived.Deep.WholeRow
import Derived.Laws.CopyOwn
import Derived.Test.YtplieplmhdfndaaGreatDoorZw03
import Derived.Test.YtplieplmhdfndaaGreatDoorZw02
import Derived.Deep.QuietTactic
import Derived.BigQuiet
namespace Go.Proofs.YtplieplmhdfndaaGreatDoor
set_option linter.unusedVariables false
set_option linter.unusedSimpArgs false
open Go.RowKit

theorem info12 : (Tryz.prog.info? 224).map (·.size) = some 12 := by kernel_rfl
theorem info15 : (Tryz.prog.info? 226).map (·.size) = some 15 := by kernel_rfl

end Go.Proofs.YtplieplmhdfndaaGreatDoor

namespace Go.Proofs.YtplieplmhdfndaaGreatDoor
set_option linter.unusedVariables false
set_option linter.unusedSimpArgs false
open Go.RowKit

/-- The fifteen integers of a root. -/
def rootI (s : Int) (ds : List Int) (p q : Int) : List Int := s :: (ds ++ [p, q])
theorem rootI_len (s : Int) (ds : List Int) (p q : Int) (hd : ds.length = 12) : (rootI s ds p q).length = 15 := by simp [rootI, hd]
theorem rootI_get13 (s : Int) (ds : List Int) (p q : Int) (hd : ds.length = 12) : (cellsI (rootI s ds p q))[13]? = some (.int .i64 p) := by
  rw [cellsI_get _ _ (by rw [rootI_len s ds p q hd]; omega)]
  match ds, hd with | [_, _, _, _, _, _, _, _, _, _, _, _], _ => rfl
theorem rootI_get14 (s : Int) (ds : List Int) (p q : Int) (hd : ds.length = 12) : (cellsI (rootI s ds p q))[14]? = some (.int .i64 q) := by
  rw [cellsI_get _ _ (by rw [rootI_len s ds p q hd]; omega)]
  match ds, hd with | [_, _, _, _, _, _, _, _, _, _, _, _], _ => rfl
theorem root_build (s : Int) (ds : List Int) (p q : Int) (hd : ds.length = 12) : ((over (s :: List.replicate 14 0) 1 ds).set 13 p).set 14 q = rootI s ds p q := by
  match ds, hd with | [_, _, _, _, _, _, _, _, _, _, _, _], _ => rfl
theorem root_range (s : Int) (ds : List Int) (p q : Int) (hd : ds.length = 12) : ((rootI s ds p q).drop 1).take 12 = ds := by
  match ds, hd with | [_, _, _, _, _, _, _, _, _, _, _, _], _ => rfl

theorem over_at {w2 : World} {b : Nat} {t : TypeId} (s : Int) (ds : List Int) (hd : ds.length = 12) (h : Blk w2 b (cellsI (over (s :: List.replicate 14 0) 1 ds)) t) (k : Nat) (hk : k < 15) : ∃ u, w2.cell? ⟨b, k, none⟩ = some u := by
  rw [h.cell k]
  exact ⟨_, Array.getElem?_eq_getElem (by rw [cellsI_size, over_len _ _ _ (by simp [hd])]; simpa using hk)⟩

end Go.Proofs.YtplieplmhdfndaaGreatDoor

namespace Go.Proofs.YtplieplmhdfndaaGreatDoor
open Go.RowKit

theorem own_empty (w : World) (e : TypeId) : (w.alloc (.cells #[] e)).ownsRow w.heap.size e 1 (.slice (some ⟨w.heap.size, 0, none⟩) 0 0) 0 [] := by
  have h := World.ownsRow_lit (base := w.heap.size) (e := e) (size := 1) w #[] 0 (Nat.le_refl _) (by simp) rfl
  simpa using h

set_option maxRecDepth 100000 in
set_option maxHeartbeats 400000 in
theorem put_any (v n : Nat) (w : World) (hv : v < 281474976710656) (hn : n ≤ 8) :
    Calls Tryz.prog 190 #[.int .i64 v, .int .i64 n] w fun e w' => ∃ v', e = .returned v' ∧ w'.ownsRow w.heap.size 5 1 v' n ((le n v).map (Value.int .u8)) ∧ Below w.heap.size w w' := by
  obtain ⟨i0, hi, hz0, hz1, hz2⟩ := info_parts infoU8
  have h0 := own_empty w 5
  have hb0 : Below w.heap.size w (w.alloc (.cells #[] 5)) := (Below.refl _ _).alloc (Nat.le_refl _) _
  go_enter Tryz.func190, Tryz.ntmps190
  go_wp2
  go_loopw [0, 5, 6] (fun x o i wr => ∃ (j q : Nat) (ys : List Int), j ≤ n ∧ i = .int .i64 j ∧ x = .int .i64 q ∧ q < 281474976710656 ∧ le n v = ys ++ le (n - j) q ∧ wr.ownsRow w.heap.size 5 1 o j (ys.map (Value.int .u8)) ∧ Below w.heap.size w wr) (fun _ _ i _ => n - (intOf i).toNat)
  case atStart => exact ⟨0, v, [], Nat.zero_le _, rfl, rfl, hv, rfl, by simpa using h0, hb0⟩
  case round =>
    clear h0 hb0
    obtain ⟨j, q, ys, hj, rfl, rfl, hq, hle, hown, hb⟩ := hrel
    have HL : Hid (le n v = ys ++ le (n - j) q) := hle
    clear hle
    have hsz := hb.size
    by_cases hlt : j < n
    · go_wp2_with (at_builtin; refine wpList_append_own _ rfl _ _ 45 rfl w.heap.size 5 i0 (.int .u8 0) 1 1 Tryz.underlying45 hi hz0 hz1 hz2 rfl (by decide) _ _ _ rfl (hown.alloc _) ⟨wr.heap.size, 0, none⟩ 1 1 [.int .u8 ((q : Int) % 256)] rfl rfl (cell_one_new _ _ _) (one_u8 _) (by unfold maxLen; omega) (by omega) (by simp; omega) ?_; intro v1 w1 hown1 hgr1 _)
      have HW : Hid (w1.ownsRow w.heap.size 5 1 v1 (j + 1) ((ys ++ [((q % 256 : Nat) : Int)]).map (Value.int .u8)) ∧ Below w.heap.size w w1) := by
        refine ⟨?_, (hb.alloc hsz _).grown hgr1 (by simp; omega) (fun k h => (hown.lt k h).1)⟩
        have e : (ys ++ [((q % 256 : Nat) : Int)]).map (Value.int .u8) = ys.map (Value.int .u8) ++ [.int .u8 ((q : Int) % 256)] := by simp
        rw [e]
        exact hown1
      clear hown hown1 hgr1 hb
      go_roundw
      case rel => exact ⟨j + 1, q / 256, ys ++ [((q % 256 : Nat) : Int)], by omega, by go_num, by go_num, by omega, by rw [HL.out]; exact le_step ys n j q hlt, HW.out.1, HW.out.2⟩
      case measure => simp [intOf]; omega
    · go_wp2
      go_ret
      have e : j = n := by omega
      subst e
      have h := HL.out
      rw [Nat.sub_self, le, List.append_nil] at h
      rw [h]
      exact ⟨_, rfl, hown, hb⟩

theorem put_pos (v n : Nat) (w : World) (hv : v < 281474976710656) (hn : n ≤ 8) (h0 : 0 < n) :
    Calls Tryz.prog 190 #[.int .i64 v, .int .i64 n] w fun e w' => ∃ g cp, e = .returned (.slice (some ⟨g, 0, none⟩) n cp) ∧ w'.ownsRow w.heap.size 5 1 (.slice (some ⟨g, 0, none⟩) n cp) n ((le n v).map (Value.int .u8)) ∧ Below w.heap.size w w' := by
  refine (put_any v n w hv hn).mono ?_
  rintro e w' ⟨v', rfl, ho, hb⟩
  rcases ho.2 with ⟨rfl, hn0⟩ | ⟨g, cap, cur, rfl, _⟩
  · omega
  · exact ⟨g, cap, rfl, ho, hb⟩
end Go.Proofs.YtplieplmhdfndaaGreatDoor

namespace Go.Proofs.YtplieplmhdfndaaGreatDoor
open Go.RowKit

def gval (ts : List Int) : Nat := if 70368744177664 ≤ unle ts / 256 then 4611686018427387904 else unle ts
theorem unle_drop (ts : List Int) (j : Nat) (h : j < ts.length) : unle (ts.drop j) = (ts.getD j 0).toNat + 256 * unle (ts.drop (j + 1)) := by
  rw [List.drop_eq_getElem_cons h, unle]
  simp [List.getD, h]
theorem unle_ge (ts : List Int) : ∀ j, 1 ≤ j → j ≤ ts.length → 256 * unle (ts.drop j) ≤ unle ts
  | 0, h, _ => by omega
  | 1, _, h2 => by
    have h := unle_drop ts 0 (by omega)
    rw [List.drop_zero, Nat.zero_add] at h
    rw [h]; omega
  | j + 2, _, h2 => by
    have h := unle_drop ts (j + 1) (by omega)
    have ih := unle_ge ts (j + 1) (by omega) (by omega)
    have e : j + 1 + 1 = j + 2 := rfl
    rw [e] at h
    omega
theorem gval_big (ts : List Int) (j : Nat) (h1 : 1 ≤ j) (h2 : j ≤ ts.length) (h : 70368744177664 ≤ unle (ts.drop j)) : gval ts = 4611686018427387904 := by
  have := unle_ge ts j h1 h2
  unfold gval
  rw [if_pos (by omega)]
theorem gval_small (ts : List Int) (h : unle ts < 18014398509481984) : gval ts = unle ts := by
  unfold gval
  rw [if_neg (by omega)]

set_option maxRecDepth 100000 in
set_option maxHeartbeats 400000 in
theorem get_any (v : Value) (ts : List Int) (w : World) (h : Rd .u8 w v ts) (hl : ts.length ≤ 8) (hbd : ∀ z ∈ ts, 0 ≤ z ∧ z < 256) :
    Calls Tryz.prog 153 #[v] w fun e w' => e = .returned (.int .i64 (gval ts)) ∧ w = w' := by
  have HB := hide hbd
  clear hbd
  rcases h.parts with ⟨a, cap, rfl, hlow⟩ | ⟨b, off, cap, rfl, hbw, hcell⟩
  all_goals
    clear h
    go_enter Tryz.func153, Tryz.ntmps153
    go_wp2
    go_loop [3, 4] (fun x i => ∃ j q : Nat, j ≤ ts.length ∧ i = .int .i64 ((j : Int) - 1) ∧ x = .int .i64 q ∧ q = unle (ts.drop j) ∧ q < 18014398509481984) (fun _ i => (intOf i + 1).toNat)
    case atStart => exact ⟨ts.length, 0, by omega, rfl, rfl, by simp [unle], by omega⟩
    case round =>
      obtain ⟨j, q, hj, rfl, rfl, hq, hql⟩ := hrel
      have HQ := hide hq
      have HQL := hide hql
      clear hq hql
      by_cases hlt : 1 ≤ j
      · obtain ⟨i, rfl⟩ : ∃ i, j = i + 1 := ⟨j - 1, by omega⟩
        by_cases hbig : (70368744177664 : Int) ≤ (q : Int)
        · first
          | (exfalso; omega)
          | (have HG := hide (gval_big ts (i + 1) hlt hj (by rw [← HQ.out]; omega))
             clear hcell
             have e1 : (((i + 1 : Nat) : Int) - 1) = (i : Int) := by omega
             rw [e1]
             clear e1
             go_wp2
             go_ret
             exact ⟨ret_int (by rw [HG.out]; rfl), rfl⟩)
        · first
          | (exfalso; omega)
          | (have e1 : (((i + 1 : Nat) : Int) - 1) = (i : Int) := by omega
             rw [e1]
             have c1 := hcell i (by omega)
             have hz1 := HB.out (ts.getD i 0) (by simp [List.getD, show i < ts.length by omega])
             have HT := hide (unle_drop ts i (by omega))
             clear hcell e1
             generalize ts.getD i 0 = z at c1 HT hz1
             obtain ⟨c, rfl⟩ := Int.eq_ofNat_of_zero_le hz1.1
             obtain ⟨_, hc2⟩ := hz1
             have hc : c < 256 := by omega
             clear hc2
             rw [Int.toNat_natCast] at HT
             go_wp2
             go_round
             case rel => exact ⟨i, c + 256 * q, by omega, by go_num, by go_num, by rw [HT.out, HQ.out], by omega⟩
             case measure => first | (simp [intOf]; done) | (simp [intOf]; omega))
      · have hj0 : j = 0 := by omega
        subst hj0
        have HG := hide (show gval ts = q from by
          have h1 := HQ.out
          rw [List.drop_zero] at h1
          have h2 := HQL.out
          rw [gval_small ts (by omega), ← h1])
        go_wp2
        go_ret
        exact ⟨ret_int (by rw [HG.out]), rfl⟩
end Go.Proofs.YtplieplmhdfndaaGreatDoor

namespace Go.Proofs.YtplieplmhdfndaaGreatDoor
open Go.RowKit

theorem infoI64 : (Tryz.prog.info? 3).map (fun i => (i.zero, i.size, i.bytes)) = some (some (.int .i64 0), 1, 8) := by kernel_rfl

end Go.Proofs.YtplieplmhdfndaaGreatDoor
