/- The laws' own marks on []byte: laid into what is owned, and found again. -/
import Derived.Test.YtmljanlenhjomaaDoorBytes
namespace Go.Proofs.YtmljanlenhjomaaDoor
open Go.RowKit

/-- The marks from k on: n bytes. -/
def mk8 (k n : Nat) : List Int := (List.range n).map fun i => ((k + i : Nat) : Int) % 256
/-- The marks from k on: n integers. -/
def mk64 (k n : Nat) : List Int := (List.range n).map fun i => ((k + i : Nat) : Int)
theorem mk8_len (k n : Nat) : (mk8 k n).length = n := by simp [mk8]
theorem mk64_len (k n : Nat) : (mk64 k n).length = n := by simp [mk64]
theorem mk8_get (k n i : Nat) (h : i < n) : (mk8 k n)[i]? = some (((k + i : Nat) : Int) % 256) := by simp [mk8, h]
theorem mk64_get (k n i : Nat) (h : i < n) : (mk64 k n)[i]? = some ((k + i : Nat) : Int) := by simp [mk64, h]
theorem mk8_getD (k n i : Nat) (h : i < n) : (mk8 k n).getD i 0 = ((k + i : Nat) : Int) % 256 := by simp [List.getD, mk8_get k n i h]
theorem mk64_getD (k n i : Nat) (h : i < n) : (mk64 k n).getD i 0 = ((k + i : Nat) : Int) := by simp [List.getD, mk64_get k n i h]

theorem set_over {α : Type} (ms xs : List α) (z : α) (k n : Nat) (hk : k < n) (hm : ms.length = n) (hx : xs.length = n) (he : ms[k]? = some z) :
    (ms.take k ++ xs.drop k).set k z = ms.take (k + 1) ++ xs.drop (k + 1) := by
  apply List.ext_getElem?
  intro i
  rw [List.getElem?_set]
  by_cases hik : k = i
  · subst hik
    rw [if_pos rfl, if_pos (by simp; omega), List.getElem?_append_left (by simp; omega), List.getElem?_take, if_pos (by omega), he]
  · rw [if_neg hik]
    by_cases hlt : i < k
    · rw [List.getElem?_append_left (by simp; omega), List.getElem?_append_left (by simp; omega), List.getElem?_take, List.getElem?_take, if_pos hlt, if_pos (by omega)]
    · rw [List.getElem?_append_right (by simp; omega), List.getElem?_append_right (by simp; omega), List.getElem?_drop, List.getElem?_drop]
      simp only [List.length_take]
      congr 1
      omega

theorem grownBy_trans {w w1 w2 : World} {r : Option Nat} (h1 : w.grownBy w1 r) (h2 : w1.grownBy w2 r) : w.grownBy w2 r :=
  ⟨h2.os.trans h1.os, h2.tape.trans h1.tape, h2.output.trans h1.output, Nat.le_trans h1.size h2.size, fun k hk hn => (h2.block k (Nat.lt_of_lt_of_le hk h1.size) hn).trans (h1.block k hk hn)⟩

set_option maxHeartbeats 400000 in
theorem markByteS_any (v : Value) (base n k0 : Nat) (xs : List Value) (w : World) (h : w.ownsRow base 5 1 v n xs) (hn : n ≤ 140737488355328) (hk0 : k0 ≤ 140737488355328) :
    Calls Tryd.prog 19 #[v, .int .i64 k0] w fun e w' => e = .returned (.int .i64 ((k0 + n : Nat) : Int)) ∧ w'.ownsRow base 5 1 v n ((mk8 k0 n).map (Value.int .u8)) ∧ w.grownBy w' v.ownBlock := by
  rcases h.2 with ⟨rfl, rfl⟩ | ⟨g, cap, cur, rfl, hb, hg, hnc, hcm, hcs, htake⟩
  · clear h
    go_enter Tryd.func19, Tryd.ntmps19
    go_wp2
    refine wp_loop_rounds 1 ?_
    rw [rounds_succ]
    go_wp2
    go_ret
    exact ⟨rfl, World.ownsRow_nil _ _ _ _, World.grownBy.refl _ _⟩
  · have hown : w.ownsRow base 5 1 (.slice (some ⟨g, 0, none⟩) n cap) n xs := h
    have hxl : xs.length = n := by have := h.1; omega
    clear h hg hcs htake hb
    go_enter Tryd.func19, Tryd.ntmps19
    go_wp2
    go_loopw [1, 5] (fun q i wr => ∃ k : Nat, k ≤ n ∧ i = .int .i64 k ∧ q = .int .i64 ((k0 + k : Nat) : Int) ∧ wr.ownsRow base 5 1 (.slice (some ⟨g, 0, none⟩) n cap) n (((mk8 k0 n).map (Value.int .u8)).take k ++ xs.drop k) ∧ w.grownBy wr (some g)) (fun _ i _ => n - (intOf i).toNat)
    case atStart => exact ⟨0, Nat.zero_le _, rfl, rfl, by simpa using hown, World.grownBy.refl _ _⟩
    case round =>
      clear hown
      obtain ⟨k, hk, rfl, rfl, hown, hgr⟩ := hrel
      by_cases hlt : k < n
      · have hst := hown.stored k (.int .u8 (((k0 + k : Nat) : Int) % 256))
        have hfr := hown.frozenAt k
        obtain ⟨old, hco⟩ : ∃ u, wr.cell? ⟨g, k, none⟩ = some u := by
          rw [hown.cellAt k (by omega)]
          exact ⟨_, List.getElem?_eq_getElem (by simp [mk8_len]; omega)⟩
        have HS : Hid ((wr.setCell ⟨g, k, none⟩ (.int .u8 (((k0 + k : Nat) : Int) % 256))).ownsRow base 5 1 (.slice (some ⟨g, 0, none⟩) n cap) n (((mk8 k0 n).map (Value.int .u8)).take (k + 1) ++ xs.drop (k + 1)) ∧ w.grownBy (wr.setCell ⟨g, k, none⟩ (.int .u8 (((k0 + k : Nat) : Int) % 256))) (some g)) := by
          refine ⟨?_, grownBy_trans hgr hst.2⟩
          rw [← set_over ((mk8 k0 n).map (Value.int .u8)) xs (.int .u8 (((k0 + k : Nat) : Int) % 256)) k n hlt (by simp [mk8_len]) hxl (by simp [mk8_get k0 n k hlt])]
          exact hst.1
        clear hst hown hgr hxl
        generalize hq : k0 + k = q at *
        have HQ : Hid (k0 + k = q) := hq
        have hql : q ≤ 281474976710656 := by omega
        clear hq
        go_wp2
        go_roundw
        case rel => exact ⟨k + 1, by omega, by go_num, by rw [← Nat.add_assoc, HQ.out]; go_num, HS.out.1, HS.out.2⟩
        case measure => simp [intOf]; omega
      · go_wp2
        go_ret
        have : k = n := by omega
        subst this
        have e : ((mk8 k0 k).map (Value.int .u8)).take k = (mk8 k0 k).map (Value.int .u8) := List.take_of_length_le (by simp [mk8_len])
        rw [e, List.drop_of_length_le (by omega)] at hown
        exact ⟨rfl, by simpa using hown, hgr⟩

set_option maxHeartbeats 400000 in
theorem heldByteS_any (v : Value) (n k0 : Nat) (w : World) (h : Rd .u8 w v (mk8 k0 n)) (hn : n ≤ 140737488355328) (hk0 : k0 ≤ 140737488355328) :
    Calls Tryd.prog 20 #[v, .int .i64 k0] w fun e w' => e = .returned (.int .i64 ((k0 + n : Nat) : Int)) ∧ w' = w := by
  have hp := h.parts
  rw [mk8_len] at hp
  rcases hp with ⟨a, cap, rfl, hlow⟩ | ⟨b, off, cap, rfl, hbw, hcell⟩
  all_goals
    clear h
    go_enter Tryd.func20, Tryd.ntmps20
    go_wp2
    go_loop [1, 5] (fun q i => ∃ k : Nat, k ≤ n ∧ i = .int .i64 k ∧ q = .int .i64 ((k0 + k : Nat) : Int)) (fun _ i => n - (intOf i).toNat)
    case atStart => exact ⟨0, Nat.zero_le _, rfl, rfl⟩
    case round =>
      obtain ⟨k, hk, rfl, rfl⟩ := hrel
      by_cases hlt : k < n
      · first
        | omega
        | (have c1 := hcell k hlt
           rw [mk8_getD k0 n k hlt] at c1
           clear hcell
           generalize hq : k0 + k = q at *
           have HQ : Hid (k0 + k = q) := hq
           have hql : q ≤ 281474976710656 := by omega
           clear hq
           go_wp2
           go_round
           case rel => exact ⟨k + 1, by omega, by go_num, by rw [← Nat.add_assoc, HQ.out]; go_num⟩
           case measure => simp [intOf]; omega)
      · go_wp2
        go_ret
        have : k = n := by omega
        subst this
        exact ⟨rfl, rfl⟩
end Go.Proofs.YtmljanlenhjomaaDoor
