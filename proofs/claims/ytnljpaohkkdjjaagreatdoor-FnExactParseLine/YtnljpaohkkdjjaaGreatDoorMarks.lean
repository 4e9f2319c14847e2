/- The laws' own marks on []byte: laid into what is owned, and found again. -/
import Derived.Test.YtnljpaohkkdjjaaGreatDoorBytes
namespace Go.Proofs.YtnljpaohkkdjjaaGreatDoor
open Go.RowKit

set_option maxHeartbeats 400000 in
theorem markByteS_any (v : Value) (base n k0 : Nat) (xs : List Value) (w : World) (h : w.ownsRow base 5 1 v n xs) (hn : n ≤ 140737488355328) (hk0 : k0 ≤ 140737488355328) :
    Calls Tryz.prog 18 #[v, .int .i64 k0] w fun e w' => e = .returned (.int .i64 ((k0 + n : Nat) : Int)) ∧ w'.ownsRow base 5 1 v n ((mk8 k0 n).map (Value.int .u8)) ∧ w.grownBy w' v.ownBlock := by
  rcases h.2 with ⟨rfl, rfl⟩ | ⟨g, cap, cur, rfl, hb, hg, hnc, hcm, hcs, htake⟩
  · clear h
    go_enter Tryz.func18, Tryz.ntmps18
    go_wp2
    refine wp_loop_rounds 1 ?_
    rw [rounds_succ]
    go_wp2
    go_ret
    exact ⟨rfl, World.ownsRow_nil _ _ _ _, World.grownBy.refl _ _⟩
  · have hown : w.ownsRow base 5 1 (.slice (some ⟨g, 0, none⟩) n cap) n xs := h
    have hxl : xs.length = n := by have := h.1; omega
    clear h hg hcs htake hb
    go_enter Tryz.func18, Tryz.ntmps18
    go_wp2
    go_loopw [1, 5] (fun q i wr => ∃ k : Nat, k ≤ n ∧ i = .int .i64 k ∧ q = .int .i64 ((k0 + k : Nat) : Int) ∧ wr.ownsRow base 5 1 (.slice (some ⟨g, 0, none⟩) n cap) n (((mk8 k0 n).map (Value.int .u8)).take k ++ xs.drop k) ∧ w.grownBy wr (some g)) (fun _ i _ => n - (intOf i).toNat)
    case atStart => exact ⟨0, Nat.zero_le _, rfl, rfl, by simpa using hown, World.grownBy.refl _ _⟩
    case round =>
      clear hown
      obtain ⟨k, hk, rfl, rfl, hown, hgr⟩ := hrel
      by_cases hlt : k < n
      · have hst := hown.stored k (.int .u8 (((k0 + k : Nat) : Int) % 256))
        have hfr := hown.frozenAt k
        obtain ⟨old, hco⟩ : ∃ u, wr.cell? ⟨g, k, none⟩ = some u := by
          rw [hown.cellAt k (by omega)]
          exact ⟨_, List.getElem?_eq_getElem (by simp [mk8_len]; omega)⟩
        have HS : Hid ((wr.setCell ⟨g, k, none⟩ (.int .u8 (((k0 + k : Nat) : Int) % 256))).ownsRow base 5 1 (.slice (some ⟨g, 0, none⟩) n cap) n (((mk8 k0 n).map (Value.int .u8)).take (k + 1) ++ xs.drop (k + 1)) ∧ w.grownBy (wr.setCell ⟨g, k, none⟩ (.int .u8 (((k0 + k : Nat) : Int) % 256))) (some g)) := by
          refine ⟨?_, grownBy_trans hgr hst.2⟩
          rw [← set_over ((mk8 k0 n).map (Value.int .u8)) xs (.int .u8 (((k0 + k : Nat) : Int) % 256)) k n hlt (by simp [mk8_len]) hxl (by simp [mk8_get k0 n k hlt])]
          exact hst.1
        clear hst hown hgr hxl
        generalize hq : k0 + k = q at *
        have HQ : Hid (k0 + k = q) := hq
        have hql : q ≤ 281474976710656 := by omega
        clear hq
        go_wp2
        go_roundw
        case rel => exact ⟨k + 1, by omega, by go_num, by rw [← Nat.add_assoc, HQ.out]; go_num, HS.out.1, HS.out.2⟩
        case measure => simp [intOf]; omega
      · go_wp2
        go_ret
        have : k = n := by omega
        subst this
        have e : ((mk8 k0 k).map (Value.int .u8)).take k = (mk8 k0 k).map (Value.int .u8) := List.take_of_length_le (by simp [mk8_len])
        rw [e, List.drop_of_length_le (by omega)] at hown
        exact ⟨rfl, by simpa using hown, hgr⟩

set_option maxHeartbeats 400000 in
theorem heldByteS_any (v : Value) (n k0 : Nat) (w : World) (h : Rd .u8 w v (mk8 k0 n)) (hn : n ≤ 140737488355328) (hk0 : k0 ≤ 140737488355328) :
    Calls Tryz.prog 19 #[v, .int .i64 k0] w fun e w' => e = .returned (.int .i64 ((k0 + n : Nat) : Int)) ∧ w' = w := by
  have hp := h.parts
  rw [mk8_len] at hp
  rcases hp with ⟨a, cap, rfl, hlow⟩ | ⟨b, off, cap, rfl, hbw, hcell⟩
  all_goals
    clear h
    go_enter Tryz.func19, Tryz.ntmps19
    go_wp2
    go_loop [1, 5] (fun q i => ∃ k : Nat, k ≤ n ∧ i = .int .i64 k ∧ q = .int .i64 ((k0 + k : Nat) : Int)) (fun _ i => n - (intOf i).toNat)
    case atStart => exact ⟨0, Nat.zero_le _, rfl, rfl⟩
    case round =>
      obtain ⟨k, hk, rfl, rfl⟩ := hrel
      by_cases hlt : k < n
      · first
        | omega
        | (have c1 := hcell k hlt
           rw [mk8_getD k0 n k hlt] at c1
           clear hcell
           generalize hq : k0 + k = q at *
           have HQ : Hid (k0 + k = q) := hq
           have hql : q ≤ 281474976710656 := by omega
           clear hq
           go_wp2
           go_round
           case rel => exact ⟨k + 1, by omega, by go_num, by rw [← Nat.add_assoc, HQ.out]; go_num⟩
           case measure => simp [intOf]; omega)
      · go_wp2
        go_ret
        have : k = n := by omega
        subst this
        exact ⟨rfl, rfl⟩
end Go.Proofs.YtnljpaohkkdjjaaGreatDoor
