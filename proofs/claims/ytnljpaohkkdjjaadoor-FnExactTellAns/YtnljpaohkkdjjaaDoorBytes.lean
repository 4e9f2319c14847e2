/- The laws' own helpers over []byte: a copy, two held against each other. -/
import Derived.Test.YtnljpaohkkdjjaaDoorRows
import Derived.Test.YtnljpaohkkdjjaaDoorBase
import Derived.Test.YtnljpaohkkdjjaaDoorPure
import Derived.WalkLawsBesides
import Derived.Deep.QuietTactic
import Derived.BigQuiet
namespace Go.Proofs.YtnljpaohkkdjjaaDoor
open Go.RowKit

theorem infoU8 : (Tryd.prog.info? 5).map (fun i => (i.zero, i.size, i.bytes)) = some (some (.int .u8 0), 1, 1) := by kernel_rfl

set_option maxHeartbeats 400000 in
theorem toByteS_any (v : Value) (zs : List Int) (w : World) (h : Rd .u8 w v zs) (hn : zs.length ≤ 140737488355328) :
    Calls Tryd.prog 14 #[v] w fun e w' => ∃ v', e = .returned v' ∧ w'.ownsRow w.heap.size 5 1 v' zs.length (zs.map (Value.int .u8)) ∧ Below w.heap.size w w' := by
  obtain ⟨i0, hi, hz0, hz1, hz2⟩ := info_parts infoU8
  have hm := h.len
  have hnm : zs.length ≤ 9223372036854775807 := by omega
  rcases h.parts with ⟨a, cap, rfl, hlow⟩ | ⟨b, off, cap, rfl, hbw, hcell⟩
  all_goals
    clear h
    go_enter Tryd.func14, Tryd.ntmps14
    go_wp2_with (refine wpList_make_full _ rfl (.tmp 6) (.tmp 6) 22 rfl w.heap.size 5 i0 (.int .u8 0) 1 Tryd.underlying22 hi hz0 hz1 .i64 .i64 zs.length zs.length zs.length rfl rfl rfl rfl (by rw [hz2]; omega) hm (Nat.le_refl _) ?_; intro w1 hown hgrow; rw [made_one _ _ rfl] at hown)
    have hb1 : Below w.heap.size w w1 := (Below.refl _ _).grown hgrow (Nat.le_refl _) (fun k h => by cases h)
    clear hgrow
    go_loopw [4] (fun i wr => ∃ k : Nat, k ≤ zs.length ∧ i = .int .i64 k ∧ wr.ownsRow w.heap.size 5 1 (.slice (some ⟨w.heap.size, 0, none⟩) zs.length zs.length) zs.length ((zs.map (Value.int .u8)).take k ++ List.replicate (zs.length - k) (.int .u8 0)) ∧ Below w.heap.size w wr) (fun i _ => zs.length - (intOf i).toNat)
    case atStart => exact ⟨0, Nat.zero_le _, rfl, by simpa using hown, hb1⟩
    case round =>
      clear hown hb1
      obtain ⟨k, hk, rfl, hown, hb1⟩ := hrel
      by_cases hlt : k < zs.length
      · first
        | omega
        | (have hcx : wr.cell? ⟨b, off + k, none⟩ = some (.int .u8 (zs.getD k 0)) := (hb1.cell (p := ⟨b, off + k, none⟩) hbw).trans (hcell k hlt)
           have hzk : zs[k]? = some (zs.getD k 0) := by simp [List.getD, hlt]
           generalize zs.getD k 0 = z at hcx hzk
           have hst := hown.stored k (.int .u8 z)
           have hfr := hown.frozenAt k
           have hco : wr.cell? ⟨w.heap.size, k, none⟩ = some (.int .u8 0) := by
             rw [hown.cellAt k (by omega), List.getElem?_append_right (by simp; omega), List.getElem?_replicate, if_pos (by simp; omega)]
           have HS : Hid ((wr.setCell ⟨w.heap.size, k, none⟩ (.int .u8 z)).ownsRow w.heap.size 5 1 (.slice (some ⟨w.heap.size, 0, none⟩) zs.length zs.length) zs.length ((zs.map (Value.int .u8)).take (k + 1) ++ List.replicate (zs.length - (k + 1)) (.int .u8 0)) ∧ Below w.heap.size w (wr.setCell ⟨w.heap.size, k, none⟩ (.int .u8 z))) := by
             refine ⟨?_, hb1.setCell (Nat.le_refl _) _⟩
             rw [← set_fill (zs.map (Value.int .u8)) (.int .u8 z) (.int .u8 0) k zs.length hlt (by simp) (by simp [hzk])]
             exact hst.1
           clear hst hown hb1 hzk
           go_wp2
           go_roundw
           case rel => exact ⟨k + 1, by omega, by go_num, HS.out.1, HS.out.2⟩
           case measure => simp [intOf]; omega)
      · go_wp2
        go_ret
        refine ⟨_, rfl, ?_, hb1⟩
        have : k = zs.length := by omega
        subst this
        have e : (zs.map (Value.int .u8)).take zs.length = zs.map (Value.int .u8) := List.take_of_length_le (by simp)
        rw [e] at hown
        simpa using hown

set_option maxHeartbeats 400000 in
theorem eqByteS_any (v1 v2 : Value) (xs ys : List Int) (w : World) (h1 : Rd .u8 w v1 xs) (h2 : Rd .u8 w v2 ys) :
    Calls Tryd.prog 20 #[v1, v2] w fun e w' => e = .returned (.bool (decide (xs = ys))) ∧ Below w.heap.size w w' := by
  have hm := h1.len
  have hm2 := h2.len
  unfold maxLen at hm hm2
  by_cases hlen : xs.length = ys.length
  · have p1 : At .u8 w v1 xs.length xs := h1.parts
    have p2 : At .u8 w v2 ys.length ys := h2.parts
    rw [← hlen] at p2
    have HL : Hid (xs.length = ys.length) := hlen
    clear hlen h1 h2 hm2
    generalize hn : xs.length = n at *
    have HN : Hid (xs.length = n) := hn
    clear hn
    rcases p1 with ⟨a1, cap1, rfl, hlow⟩ | ⟨b1, off1, cap1, rfl, hbw1, hcell1⟩ <;> rcases p2 with ⟨a2, cap2, rfl, hlow2⟩ | ⟨b2, off2, cap2, rfl, hbw2, hcell2⟩
    all_goals
      go_enter Tryd.func20, Tryd.ntmps20
      go_wp2
      go_loopw [5] (fun i wr => ∃ k nq : Nat, k ≤ n ∧ i = .int .i64 k ∧ wr = w.drewN nq ∧ xs.take k = ys.take k) (fun i _ => n - (intOf i).toNat)
      case atStart => exact ⟨0, 0, Nat.zero_le _, rfl, rfl, rfl⟩
      case round =>
        obtain ⟨k, nq, hk, rfl, rfl, ht⟩ := hrel
        have HT : Hid (xs.take k = ys.take k) := ht
        clear ht
        by_cases hlt : k < n
        · first
          | omega
          | (have c1 := hcell1 k hlt
             have c2 := hcell2 k hlt
             have HX : Hid (xs.getD k 0 = ys.getD k 0 → xs.take (k + 1) = ys.take (k + 1)) := fun he => take_eq_step xs ys k (by have := HN.out; omega) (by have := HL.out; omega) HT.out he
             have HY : Hid (xs.getD k 0 ≠ ys.getD k 0 → ¬ xs = ys) := fun he h => he (by rw [h])
             generalize xs.getD k 0 = x at c1 HX HY
             generalize ys.getD k 0 = y at c2 HX HY
             have hlt' : (k : Int) < (n : Int) := by omega
             clear hcell1 hcell2
             by_cases hxy : x = y
             · have hq : (x != y) = false := by simp [hxy]
               have HXY : Hid (x = y) := hxy
               clear hxy
               go_wp2
               go_quiet (fail)
               go_wp2
               go_roundw
               case rel => exact ⟨k + 1, _, by omega, by go_num, rfl, HX.out HXY.out⟩
               case measure => simp [intOf]; omega
             · have hq : (x != y) = true := by simpa using hxy
               have HXY : Hid (x ≠ y) := hxy
               clear hxy
               go_wp2
               go_quiet (fail)
               go_wp2
               go_ret
               exact ⟨ret_bool (by have := HY.out HXY.out; simp [this]), below_drewN (below_drewN (Below.refl _ _) _) _⟩)
        · go_wp2
          go_ret
          have : k = n := by omega
          subst this
          have e1 := HT.out
          rw [List.take_of_length_le (by have := HN.out; omega), List.take_of_length_le (by have := HL.out; omega)] at e1
          exact ⟨ret_bool (by simp [e1]), below_drewN (Below.refl _ _) _⟩
  · obtain ⟨a1, cap1, rfl, _, _⟩ := h1
    obtain ⟨a2, cap2, rfl, _, _⟩ := h2
    have hq : ((xs.length : Int) == (ys.length : Int)) = false := by simp; omega
    have HF : Hid (¬ xs = ys) := fun h => hlen (by rw [h])
    clear hlen
    go_enter Tryd.func20, Tryd.ntmps20
    go_wp2
    go_ret
    exact ⟨ret_bool (by simp [HF.out]), Below.refl _ _⟩

theorem eqByteS_same (v1 v2 : Value) (xs : List Int) (w : World) (h1 : Rd .u8 w v1 xs) (h2 : Rd .u8 w v2 xs) :
    Calls Tryd.prog 20 #[v1, v2] w fun e w' => e = .returned (.bool true) ∧ Below w.heap.size w w' := by
  refine (eqByteS_any v1 v2 xs xs w h1 h2).mono ?_
  rintro e w' ⟨rfl, hb⟩
  exact ⟨by simp, hb⟩
end Go.Proofs.YtnljpaohkkdjjaaDoor
