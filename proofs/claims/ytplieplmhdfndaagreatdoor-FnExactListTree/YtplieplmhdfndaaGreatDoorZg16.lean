/- The model's looks at one node: l07Free, l07Target, l07Plain. A state in memory; the model's l07Total. Tallies of entries: mathematics. The model's DirCheck. -/
import Derived.Test.YtplieplmhdfndaaGreatDoorZg15
import Derived.Test.YtplieplmhdfndaaGreatDoorZg09
import Derived.Test.YtplieplmhdfndaaGreatDoorZg14
namespace Go.Proofs.YtplieplmhdfndaaGreatDoor
set_option linter.unusedVariables false
set_option linter.unusedSimpArgs false
open Go.RowKit

theorem all_same {f g : Int → Bool} : ∀ d : List Int, (∀ z ∈ d, f z = g z) → d.all f = d.all g
  | [], _ => rfl
  | z :: d, h => by rw [List.all_cons, List.all_cons, h z (by simp), all_same d (fun y hy => h y (by simp [hy]))]
set_option maxRecDepth 100000 in
set_option maxHeartbeats 2000000 in
theorem free_lit (k l m u g p e t c : Int) (d : List Int) (a : Option Addr) (cap : Nat) (w : World) :
    Calls Tryz.prog 55 #[.agg #[.int .i64 k, .int .i64 l, .int .i64 m, .int .i64 u, .int .i64 g, .int .i64 p, .int .i64 e, .int .i64 t, .int .i64 c, .slice a d.length cap]] w fun x w' => x = .returned (.bool (freeN ⟨k, l, m, u, g, p, e, t, c, d⟩)) ∧ Below w.heap.size w w' := by
  by_cases h0 : k = 0
  rotate_left
  · have HZ := hide (show freeN ⟨k, l, m, u, g, p, e, t, c, d⟩ = false from by simp [freeN, h0])
    rw [HZ.out]
    go_enter Tryz.func55, Tryz.ntmps55
    go_wp2
    go_ret
    exact ⟨rfl, (Below.refl _ _).alloc (Nat.le_refl _) _⟩
  subst h0
  by_cases h1 : l = 0
  rotate_left
  · have HZ := hide (show freeN ⟨0, l, m, u, g, p, e, t, c, d⟩ = false from by simp [freeN, h1])
    rw [HZ.out]
    go_enter Tryz.func55, Tryz.ntmps55
    go_wp2
    go_ret
    exact ⟨rfl, (Below.refl _ _).alloc (Nat.le_refl _) _⟩
  subst h1
  by_cases h2 : m = 0
  rotate_left
  · have HZ := hide (show freeN ⟨0, 0, m, u, g, p, e, t, c, d⟩ = false from by simp [freeN, h2])
    rw [HZ.out]
    go_enter Tryz.func55, Tryz.ntmps55
    go_wp2
    go_ret
    exact ⟨rfl, (Below.refl _ _).alloc (Nat.le_refl _) _⟩
  subst h2
  by_cases h3 : u = 0
  rotate_left
  · have HZ := hide (show freeN ⟨0, 0, 0, u, g, p, e, t, c, d⟩ = false from by simp [freeN, h3])
    rw [HZ.out]
    go_enter Tryz.func55, Tryz.ntmps55
    go_wp2
    go_ret
    exact ⟨rfl, (Below.refl _ _).alloc (Nat.le_refl _) _⟩
  subst h3
  by_cases h4 : g = 0
  rotate_left
  · have HZ := hide (show freeN ⟨0, 0, 0, 0, g, p, e, t, c, d⟩ = false from by simp [freeN, h4])
    rw [HZ.out]
    go_enter Tryz.func55, Tryz.ntmps55
    go_wp2
    go_ret
    exact ⟨rfl, (Below.refl _ _).alloc (Nat.le_refl _) _⟩
  subst h4
  by_cases h5 : p = 0
  rotate_left
  · have HZ := hide (show freeN ⟨0, 0, 0, 0, 0, p, e, t, c, d⟩ = false from by simp [freeN, h5])
    rw [HZ.out]
    go_enter Tryz.func55, Tryz.ntmps55
    go_wp2
    go_ret
    exact ⟨rfl, (Below.refl _ _).alloc (Nat.le_refl _) _⟩
  subst h5
  by_cases h6 : e = 0
  rotate_left
  · have HZ := hide (show freeN ⟨0, 0, 0, 0, 0, 0, e, t, c, d⟩ = false from by simp [freeN, h6])
    rw [HZ.out]
    go_enter Tryz.func55, Tryz.ntmps55
    go_wp2
    go_ret
    exact ⟨rfl, (Below.refl _ _).alloc (Nat.le_refl _) _⟩
  subst h6
  by_cases h7 : t = 0
  rotate_left
  · have HZ := hide (show freeN ⟨0, 0, 0, 0, 0, 0, 0, t, c, d⟩ = false from by simp [freeN, h7])
    rw [HZ.out]
    go_enter Tryz.func55, Tryz.ntmps55
    go_wp2
    go_ret
    exact ⟨rfl, (Below.refl _ _).alloc (Nat.le_refl _) _⟩
  subst h7
  by_cases h8 : c = 0
  rotate_left
  · have HZ := hide (show freeN ⟨0, 0, 0, 0, 0, 0, 0, 0, c, d⟩ = false from by simp [freeN, h8])
    rw [HZ.out]
    go_enter Tryz.func55, Tryz.ntmps55
    go_wp2
    go_ret
    exact ⟨rfl, (Below.refl _ _).alloc (Nat.le_refl _) _⟩
  subst h8
  by_cases hd : d.length = 0
  · have HZ := hide (show freeN ⟨0, 0, 0, 0, 0, 0, 0, 0, 0, d⟩ = true from by simp [freeN, List.eq_nil_of_length_eq_zero hd])
    rw [HZ.out, hd]
    go_enter Tryz.func55, Tryz.ntmps55
    go_wp2
    go_ret
    exact ⟨rfl, (Below.refl _ _).alloc (Nat.le_refl _) _⟩
  · have HZ := hide (show freeN ⟨0, 0, 0, 0, 0, 0, 0, 0, 0, d⟩ = false from by
      have : d ≠ [] := fun e => hd (by rw [e]; rfl)
      simp [freeN, this])
    rw [HZ.out]
    generalize d.length = n at hd
    have hd2 : ((n : Int) == 0) = false := by simp; omega
    go_enter Tryz.func55, Tryz.ntmps55
    go_wp2
    go_ret
    exact ⟨rfl, (Below.refl _ _).alloc (Nat.le_refl _) _⟩
theorem free_any (x : Nd) (a : Option Addr) (cap : Nat) (w : World) :
    Calls Tryz.prog 55 #[.agg (ndC x (.slice a x.d.length cap))] w fun r w' => r = .returned (.bool (freeN x)) ∧ Below w.heap.size w w' := free_lit x.k x.l x.m x.u x.g x.p x.e x.t x.c x.d a cap w
/-- What may be a target, as a string. -/
def targS (s : List UInt8) : Bool := decide (1 ≤ s.length) && decide (s.length ≤ 255) && s.all (fun c => decide (c.toNat ≠ 0))
set_option maxRecDepth 100000 in
set_option maxHeartbeats 1000000 in
theorem target_any (s : ByteArray) (w : World) (hs : s.size ≤ 1048576) :
    Calls Tryz.prog 92 #[.string s] w fun e w' => e = .returned (.bool (targS s.data.toList)) ∧ w = w' := by
  have hll : s.data.toList.length = s.size := rfl
  by_cases h1 : s.size < 1
  · have HZ := hide (show targS s.data.toList = false from by unfold targS; rw [hll, decide_eq_false (by omega)]; rfl)
    rw [HZ.out]
    clear hll
    have h3 : (s.size : Int) < 1 := by omega
    go_enter Tryz.func92, Tryz.ntmps92
    go_wp2
    go_ret
    exact ⟨rfl, rfl⟩
  by_cases h2 : 255 < s.size
  · have HZ := hide (show targS s.data.toList = false from by unfold targS; rw [hll, decide_eq_false (show ¬ s.size ≤ 255 by omega)]; simp)
    rw [HZ.out]
    clear hll
    have h3 : (255 : Int) < (s.size : Int) := by omega
    go_enter Tryz.func92, Tryz.ntmps92
    go_wp2
    go_ret
    exact ⟨rfl, rfl⟩
  have HL := hide (show targS s.data.toList = s.data.toList.all (fun c => decide (c.toNat ≠ 0)) from by unfold targS; rw [hll, decide_eq_true (by omega), decide_eq_true (by omega)]; simp)
  have HLL := hide hll
  have h3 : ¬ (255 : Int) < (s.size : Int) := by omega
  clear hll
  go_enter Tryz.func92, Tryz.ntmps92
  go_wp2
  go_loop [3] (fun i => ∃ k : Nat, k ≤ s.size ∧ i = .int .i64 (k : Int) ∧ Hid ((s.data.toList.take k).all (fun c => decide (c.toNat ≠ 0)) = true)) (fun i => s.size - (intOf i).toNat)
  case atStart => exact ⟨0, by omega, rfl, rfl⟩
  case round =>
    obtain ⟨k, hk, rfl, HK⟩ := hrel
    by_cases hlt : k < s.size
    · have hb : s.data.toList[k]? = some s[k] := by rw [Array.getElem?_toList]; exact Array.getElem?_eq_getElem hlt
      have HC := hide hb
      clear hb
      generalize hcz : s[k] = c at HC
      by_cases hz : c.toNat = 0
      · have HA := hide (show targS s.data.toList = false from by rw [HL.out, List.all_eq_false]; exact ⟨c, List.mem_of_getElem? HC.out, by simp [hz]⟩)
        have hz2 : ((c.toNat : Int) == 0) = true := by rw [hz]; rfl
        clear hz
        go_wp2
        go_ret
        exact ⟨ret_bool HA.out.symm, rfl⟩
      · have HA := hide (show (s.data.toList.take (k + 1)).all (fun c => decide (c.toNat ≠ 0)) = true from by rw [List.take_add_one, HC.out, List.all_append, HK.out]; simp [hz])
        have hz2 : ((c.toNat : Int) == 0) = false := by simp; omega
        clear hz
        go_wp2
        go_round
        case rel => exact ⟨k + 1, by omega, by go_num, HA⟩
        case measure => simp [intOf]; omega
    · have HA := hide (show targS s.data.toList = true from by rw [HL.out, ← HK.out, List.take_of_length_le (by rw [HLL.out]; omega)])
      go_wp2
      go_ret
      exact ⟨ret_bool HA.out.symm, rfl⟩
theorem targ_same {d : List Int} (h : ∀ z ∈ d, 0 ≤ z ∧ z < 256) : targS (strOfNums d).data.toList = targB d := by
  unfold targS targB
  rw [strOfNums_data, List.length_map, List.all_map]
  congr 1
  refine all_same d (fun z hz => ?_)
  have := h z hz
  rw [Bool.eq_iff_iff]
  simp
  omega
set_option maxRecDepth 100000 in
set_option maxHeartbeats 4000000 in
theorem plain_lit (k l m u g p e t c C : Int) (d : List Int) (a : Option Addr) (cap : Nat) (w : World) (hr : Rd .u8 w (.slice a d.length cap) d) (hbd : ∀ z ∈ d, 0 ≤ z ∧ z < 256) :
    Calls Tryz.prog 56 #[.agg #[.int .i64 k, .int .i64 l, .int .i64 m, .int .i64 u, .int .i64 g, .int .i64 p, .int .i64 e, .int .i64 t, .int .i64 c, .slice a d.length cap], .int .i64 C] w fun x w' => x = .returned (.bool (plainN ⟨k, l, m, u, g, p, e, t, c, d⟩ C)) ∧ Below w.heap.size w w' := by
  have HR := hide hr
  have HBD := hide hbd
  have hdm := hr.len
  unfold maxLen at hdm
  clear hr hbd
  cases b0 : wi k 1 3 with
  | false =>
    have HZ := hide (show plainN ⟨k, l, m, u, g, p, e, t, c, d⟩ C = false from by simp [plainN, b0])
    rw [HZ.out]
    go_enter Tryz.func56, Tryz.ntmps56
    go_wp2_with (go_at_call 54; refine (l02Within_any _ _ _ _).mono ?_; rintro r w9 ⟨rfl, e9⟩; rw [← e9]; clear e9)
    go_ret
    exact ⟨rfl, (Below.refl _ _).alloc (Nat.le_refl _) _⟩
  | true =>
    cases b1 : wi m 0 4095 with
    | false =>
      have HZ := hide (show plainN ⟨k, l, m, u, g, p, e, t, c, d⟩ C = false from by simp [plainN, b1])
      rw [HZ.out]
      go_enter Tryz.func56, Tryz.ntmps56
      go_wp2_with (go_at_call 54; refine (l02Within_any _ _ _ _).mono ?_; rintro r w9 ⟨rfl, e9⟩; rw [← e9]; clear e9)
      go_ret
      exact ⟨rfl, (Below.refl _ _).alloc (Nat.le_refl _) _⟩
    | true =>
      cases b2 : wi u 0 65535 with
      | false =>
        have HZ := hide (show plainN ⟨k, l, m, u, g, p, e, t, c, d⟩ C = false from by simp [plainN, b2])
        rw [HZ.out]
        go_enter Tryz.func56, Tryz.ntmps56
        go_wp2_with (go_at_call 54; refine (l02Within_any _ _ _ _).mono ?_; rintro r w9 ⟨rfl, e9⟩; rw [← e9]; clear e9)
        go_ret
        exact ⟨rfl, (Below.refl _ _).alloc (Nat.le_refl _) _⟩
      | true =>
        cases b3 : wi g 0 65535 with
        | false =>
          have HZ := hide (show plainN ⟨k, l, m, u, g, p, e, t, c, d⟩ C = false from by simp [plainN, b3])
          rw [HZ.out]
          go_enter Tryz.func56, Tryz.ntmps56
          go_wp2_with (go_at_call 54; refine (l02Within_any _ _ _ _).mono ?_; rintro r w9 ⟨rfl, e9⟩; rw [← e9]; clear e9)
          go_ret
          exact ⟨rfl, (Below.refl _ _).alloc (Nat.le_refl _) _⟩
        | true =>
          cases b4 : wi e 1 C with
          | false =>
            have HZ := hide (show plainN ⟨k, l, m, u, g, p, e, t, c, d⟩ C = false from by simp [plainN, b4])
            rw [HZ.out]
            go_enter Tryz.func56, Tryz.ntmps56
            go_wp2_with (go_at_call 54; refine (l02Within_any _ _ _ _).mono ?_; rintro r w9 ⟨rfl, e9⟩; rw [← e9]; clear e9)
            go_ret
            exact ⟨rfl, (Below.refl _ _).alloc (Nat.le_refl _) _⟩
          | true =>
            cases b5 : wi t 1 C with
            | false =>
              have HZ := hide (show plainN ⟨k, l, m, u, g, p, e, t, c, d⟩ C = false from by simp [plainN, b5])
              rw [HZ.out]
              go_enter Tryz.func56, Tryz.ntmps56
              go_wp2_with (go_at_call 54; refine (l02Within_any _ _ _ _).mono ?_; rintro r w9 ⟨rfl, e9⟩; rw [← e9]; clear e9)
              go_ret
              exact ⟨rfl, (Below.refl _ _).alloc (Nat.le_refl _) _⟩
            | true =>
              cases b6 : wi c 1 C with
              | false =>
                have HZ := hide (show plainN ⟨k, l, m, u, g, p, e, t, c, d⟩ C = false from by simp [plainN, b6])
                rw [HZ.out]
                go_enter Tryz.func56, Tryz.ntmps56
                go_wp2_with (go_at_call 54; refine (l02Within_any _ _ _ _).mono ?_; rintro r w9 ⟨rfl, e9⟩; rw [← e9]; clear e9)
                go_ret
                exact ⟨rfl, (Below.refl _ _).alloc (Nat.le_refl _) _⟩
              | true =>
                by_cases hl : d.length ≤ 262144
                rotate_left
                · have hl2 : (262144 : Int) < (d.length : Int) := by omega
                  have HZ := hide (show plainN ⟨k, l, m, u, g, p, e, t, c, d⟩ C = false from by simp [plainN, hl])
                  rw [HZ.out]
                  go_enter Tryz.func56, Tryz.ntmps56
                  go_wp2_with (go_at_call 54; refine (l02Within_any _ _ _ _).mono ?_; rintro r w9 ⟨rfl, e9⟩; rw [← e9]; clear e9)
                  go_ret
                  exact ⟨rfl, (Below.refl _ _).alloc (Nat.le_refl _) _⟩
                have hl2 : ¬ (262144 : Int) < (d.length : Int) := by omega
                by_cases hp : ¬ k = 2 ∧ ¬ p = 0
                · obtain ⟨hp1, hp2⟩ := hp
                  have hp3 : (k != 2) = true := by simpa using hp1
                  have hp4 : (p != 0) = true := by simpa using hp2
                  have HZ := hide (show plainN ⟨k, l, m, u, g, p, e, t, c, d⟩ C = false from by simp [plainN, hp1, hp2])
                  rw [HZ.out]
                  go_enter Tryz.func56, Tryz.ntmps56
                  go_wp2_with (go_at_call 54; refine (l02Within_any _ _ _ _).mono ?_; rintro r w9 ⟨rfl, e9⟩; rw [← e9]; clear e9)
                  go_ret
                  exact ⟨rfl, (Below.refl _ _).alloc (Nat.le_refl _) _⟩
                by_cases h3 : k = 3
                · subst h3
                  have hp0 : p = 0 := Classical.byContradiction fun h => hp ⟨by decide, h⟩
                  subst hp0
                  have HZ := hide (show plainN ⟨3, l, m, u, g, 0, e, t, c, d⟩ C = targB d from by simp [plainN, b0, b1, b2, b3, b4, b5, b6, hl])
                  have HT := hide (show targS (strOfNums d).data.toList = targB d from targ_same HBD.out)
                  have hcv := conv_rd (HR.out.below ((Below.refl _ _).alloc (Nat.le_refl _) (.cells #[.int .i64 3, .int .i64 l, .int .i64 m, .int .i64 u, .int .i64 g, .int .i64 0, .int .i64 e, .int .i64 t, .int .i64 c, .slice a d.length cap] 56)))
                  have HSZ := hide (show (strOfNums d).size ≤ 1048576 from by rw [strOfNums_size]; omega)
                  rw [HZ.out]
                  clear hp
                  go_enter Tryz.func56, Tryz.ntmps56
                  go_wp2_with (first | (go_at_call 54; refine (l02Within_any _ _ _ _).mono ?_; rintro r w9 ⟨rfl, e9⟩; rw [← e9]; clear e9) | (go_at_call 92; refine (target_any _ _ HSZ.out).mono ?_; rw [HT.out]; rintro r w9 ⟨rfl, e9⟩; rw [← e9]; clear e9))
                  go_ret
                  exact ⟨rfl, (Below.refl _ _).alloc (Nat.le_refl _) _⟩
                by_cases h2 : k = 2
                · clear hp h3
                  subst h2
                  have HZ := hide (show plainN ⟨2, l, m, u, g, p, e, t, c, d⟩ C = true from by simp [plainN, b0, b1, b2, b3, b4, b5, b6, hl])
                  rw [HZ.out]
                  go_enter Tryz.func56, Tryz.ntmps56
                  go_wp2_with (go_at_call 54; refine (l02Within_any _ _ _ _).mono ?_; rintro r w9 ⟨rfl, e9⟩; rw [← e9]; clear e9)
                  go_ret
                  exact ⟨rfl, (Below.refl _ _).alloc (Nat.le_refl _) _⟩
                · have hp0 : p = 0 := Classical.byContradiction fun h => hp ⟨h2, h⟩
                  clear hp
                  subst hp0
                  have h5 : (k == 2) = false := by simpa using h2
                  have h6 : (k == 3) = false := by simpa using h3
                  have HZ := hide (show plainN ⟨k, l, m, u, g, 0, e, t, c, d⟩ C = true from by simp [plainN, b0, b1, b2, b3, b4, b5, b6, hl, h3, h2])
                  rw [HZ.out]
                  go_enter Tryz.func56, Tryz.ntmps56
                  go_wp2_with (go_at_call 54; refine (l02Within_any _ _ _ _).mono ?_; rintro r w9 ⟨rfl, e9⟩; rw [← e9]; clear e9)
                  go_ret
                  exact ⟨rfl, (Below.refl _ _).alloc (Nat.le_refl _) _⟩
theorem plain_any (x : Nd) (C : Int) (a : Option Addr) (cap : Nat) (w : World) (hr : Rd .u8 w (.slice a x.d.length cap) x.d) (hbd : ∀ z ∈ x.d, 0 ≤ z ∧ z < 256) :
    Calls Tryz.prog 56 #[.agg (ndC x (.slice a x.d.length cap)), .int .i64 C] w fun r w' => r = .returned (.bool (plainN x C)) ∧ Below w.heap.size w w' := plain_lit x.k x.l x.m x.u x.g x.p x.e x.t x.c C x.d a cap w hr hbd
end Go.Proofs.YtplieplmhdfndaaGreatDoor

namespace Go.Proofs.YtplieplmhdfndaaGreatDoor
set_option linter.unusedVariables false
set_option linter.unusedSimpArgs false
open Go.RowKit

theorem infoNd : (Tryz.prog.info? 56).map (·.size) = some 10 := by kernel_rfl
/-- Node i of a state's nodes. -/
theorem node_at {W : World} {v : Value} {L : List Nd} {vs : List Value} (h : RdN W 9 v (L.map ndE) vs) {i : Nat} (hi : i < L.length) :
    ∃ b off cap a c, v = .slice (some ⟨b, off, none⟩) L.length cap ∧ b < W.heap.size ∧ Rd .u8 W (.slice a (ndAt L i).d.length c) (ndAt L i).d ∧ vs[i]? = some (.slice a (ndAt L i).d.length c) ∧ W.rangeAt b (off + i * 10) (ndC (ndAt L i) (.slice a (ndAt L i).d.length c)).toList := by
  obtain ⟨a, cap, rfl, _⟩ := h.row
  rw [List.length_map] at h ⊢
  have hl : (L.map ndE)[i]? = some (ndE (ndAt L i)) := by simp [ndAt, List.getD, hi]
  have h' : RdN W 9 (.slice a (L.map ndE).length cap) (L.map ndE) vs := by rw [List.length_map]; exact h
  obtain ⟨b, off, u, rfl, hb, hu, hr, hrange⟩ := h'.at hl
  obtain ⟨a', c', rfl⟩ := rd_shape hr
  exact ⟨b, off, cap, a', c', rfl, hb, hr, hu, hrange⟩
theorem totN_succ (L : List Nd) (k : Nat) (h : k < L.length) : totN (L.take (k + 1)) = totN (L.take k) + (ndAt L k).d.length := by
  unfold totN ndAt
  have e : L.getD k nd0 = L[k] := by simp [List.getD, h]
  rw [List.take_add_one, List.getElem?_eq_getElem h, e]
  simp only [Option.toList, List.map_append, List.sum_append, List.map_cons, List.map_nil, List.sum_cons, List.sum_nil, Nat.add_zero]
theorem totN_le (L : List Nd) (k : Nat) : totN (L.take k) ≤ totN L := by
  conv => rhs; rw [← List.take_append_drop k L]
  unfold totN
  rw [List.map_append, List.sum_append]
  omega
set_option maxRecDepth 100000 in
set_option maxHeartbeats 2000000 in
theorem total_any (C : Int) (v : Value) (L : List Nd) (vs : List Value) (w : World) (h : RdN w 9 v (L.map ndE) vs) (hT : totN L ≤ 1099511627776) (hL : L.length ≤ 1048576) :
    Calls Tryz.prog 57 #[.agg #[.int .i64 C, v]] w fun e w' => e = .returned (.int .i64 (totN L : Int)) ∧ Below w.heap.size w w' := by
  obtain ⟨a, cap, rfl, _⟩ := h.row
  rw [List.length_map] at h ⊢
  obtain ⟨N, hN⟩ : ∃ N, N = L.length := ⟨_, rfl⟩
  rw [← hN] at h hL ⊢
  have HN := hide hN
  have HR := hide h
  clear hN h
  obtain ⟨W1, hW1⟩ : ∃ W1, W1 = w.alloc (.cells #[.int .i64 C, .slice a N cap] 29) := ⟨_, rfl⟩
  have b1 : Below w.heap.size w W1 := by rw [hW1]; exact (Below.refl _ _).alloc (Nat.le_refl _) _
  have k1 : Blk W1 w.heap.size #[.int .i64 C, .slice a N cap] 29 := by rw [hW1]; exact Blk.new w _ _
  have c1 := (k1.cell 1).trans (show _ = some (.slice a N cap) from rfl)
  have HR1 := hide (HR.out.below b1)
  have HB1 := hide b1
  have HW1 := hide hW1
  clear b1 k1 hW1 HR
  go_enter Tryz.func57, Tryz.ntmps57
  go_upto_region 2 with fail
  rw [← HW1.out]
  go_wp2_with fail
  go_loopw [3, 9] (fun sv iv wr => ∃ k : Nat, k ≤ N ∧ iv = .int .i64 (k : Int) ∧ sv = .int .i64 (totN (L.take k) : Int) ∧ Hid (Below W1.heap.size W1 wr)) (fun _ iv _ => N - (intOf iv).toNat)
  case atStart => exact ⟨0, Nat.zero_le _, rfl, rfl, Below.refl _ _⟩
  case round =>
    obtain ⟨k, hk, rfl, rfl, HF⟩ := hrel
    have ht := Nat.le_trans (totN_le L k) hT
    by_cases hlt : k < N
    · have hs := totN_succ L k (by rw [← HN.out]; exact hlt)
      have ht2 := Nat.le_trans (totN_le L (k + 1)) hT
      obtain ⟨b, off, cap', na, nc, e0, hb, hr, _, hrange⟩ := node_at (HR1.out.below HF.out) (i := k) (by rw [← HN.out]; exact hlt)
      injection e0 with e1 e2 e3
      subst e1 e3
      have HRG := hide hrange
      generalize hx : ndAt L k = x at hs hr HRG
      obtain ⟨q, hq⟩ : ∃ q, q = x.d.length := ⟨_, rfl⟩
      rw [← hq] at hs HRG
      generalize totN (L.take k) = T at hs ht ⊢
      have HS := hide hs
      have hqb : T + q ≤ 1099511627776 := by omega
      clear hs ht2 hr hrange hx hq e2 hb
      go_wp2_with (refine wpList_load_mid rfl 56 _ rfl b (off + k * 10) rfl [.int .i64 x.k, .int .i64 x.l, .int .i64 x.m, .int .i64 x.u, .int .i64 x.g, .int .i64 x.p, .int .i64 x.e, .int .i64 x.t, .int .i64 x.c, .slice na q nc] _ HRG.out Tryz.underlying56 rfl infoNd ?_)
      go_roundw
      case rel => exact ⟨k + 1, by omega, by go_num, by rw [HS.out]; go_num, HF.out.alloc HF.out.size _⟩
      case measure => simp [intOf]; omega
    · have HS := hide (show totN (L.take k) = totN L from by rw [List.take_of_length_le (by rw [← HN.out]; omega)])
      go_wp2
      go_ret
      exact ⟨ret_int (by rw [HS.out]), HB1.out.trans (HF.out.mono HB1.out.size)⟩
end Go.Proofs.YtplieplmhdfndaaGreatDoor

namespace Go.Proofs.YtplieplmhdfndaaGreatDoor
set_option linter.unusedVariables false
set_option linter.unusedSimpArgs false

/-- Entries, each with the number of its directory. -/
abbrev QE := List (Nat × (ByteArray × Nat × Nat))
def tnQ (Q : QE) (i : Nat) : Int := (Q.countP (fun x => x.2.2.1 == i) : Nat)
def tfQ (Q : QE) (i : Nat) : Int := ((Q.reverse.find? (fun x => x.2.2.1 == i)).map (fun x => (x.1 : Int))).getD 0
def tdQ (Q : QE) (k : Nat) : Int := (Q.countP (fun x => x.1 == k && x.2.2.2 == 2) : Nat)
def rowQ (N : Nat) (f : Nat → Int) : List Int := (List.range N).map f
theorem rowQ_len (N : Nat) (f : Nat → Int) : (rowQ N f).length = N := by simp [rowQ]
theorem rowQ_get (N : Nat) (f : Nat → Int) (i : Nat) (h : i < N) : (rowQ N f)[i]? = some (f i) := by simp [rowQ, h]
theorem rowQ_set (N : Nat) (f f' : Nat → Int) (i : Nat) (h : ∀ j, j < N → j ≠ i → f' j = f j) : rowQ N f' = (rowQ N f).set i (f' i) := by
  apply List.ext_getElem?
  intro j
  rw [List.getElem?_set]
  by_cases hj : j < N
  · rw [rowQ_get N f' j hj]
    by_cases e : i = j
    · subst e
      rw [if_pos rfl, if_pos (by rw [rowQ_len]; exact hj)]
    · rw [if_neg e, rowQ_get N f j hj, h j hj (fun e2 => e e2.symm)]
  · rw [List.getElem?_eq_none (by rw [rowQ_len]; omega)]
    by_cases e : i = j
    · subst e
      rw [if_pos rfl, if_neg (by rw [rowQ_len]; omega)]
    · rw [if_neg e, List.getElem?_eq_none (by rw [rowQ_len]; omega)]
theorem tnQ_snoc (Q : QE) (k : Nat) (e : ByteArray × Nat × Nat) (j : Nat) : tnQ (Q ++ [(k, e)]) j = if e.2.1 = j then tnQ Q j + 1 else tnQ Q j := by
  unfold tnQ
  rw [List.countP_append]
  by_cases h : e.2.1 = j
  · simp [h]
  · simp [h]
theorem tfQ_snoc (Q : QE) (k : Nat) (e : ByteArray × Nat × Nat) (j : Nat) : tfQ (Q ++ [(k, e)]) j = if e.2.1 = j then (k : Int) else tfQ Q j := by
  unfold tfQ
  rw [List.reverse_append]
  simp only [List.reverse_cons, List.reverse_nil, List.nil_append, List.cons_append, List.find?_cons]
  by_cases h : e.2.1 = j
  · simp [h]
  · have hb : (e.2.1 == j) = false := by simpa using h
    rw [if_neg h]
    simp only [hb]
theorem tdQ_snoc (Q : QE) (k : Nat) (e : ByteArray × Nat × Nat) (j : Nat) : tdQ (Q ++ [(k, e)]) j = if k = j ∧ e.2.2 = 2 then tdQ Q j + 1 else tdQ Q j := by
  unfold tdQ
  rw [List.countP_append]
  by_cases h : k = j ∧ e.2.2 = 2
  · rw [if_pos h]; simp [h.1, h.2]
  · rw [if_neg h]
    by_cases h1 : k = j
    · have h2 : e.2.2 ≠ 2 := fun e2 => h ⟨h1, e2⟩
      simp [h2]
    · simp [h1]
theorem tnQ_bd (Q : QE) (j : Nat) : 0 ≤ tnQ Q j ∧ tnQ Q j ≤ Q.length := by
  unfold tnQ
  have := List.countP_le_length (p := fun x : Nat × (ByteArray × Nat × Nat) => x.2.2.1 == j) (l := Q)
  omega
theorem tdQ_bd (Q : QE) (j : Nat) : 0 ≤ tdQ Q j ∧ tdQ Q j ≤ Q.length := by
  unfold tdQ
  have := List.countP_le_length (p := fun x : Nat × (ByteArray × Nat × Nat) => x.1 == j && x.2.2.2 == 2) (l := Q)
  omega
/-- The entries of the first k nodes. -/
def allQ (L : List Nd) (k : Nat) : QE := (List.range k).flatMap fun j => (entN (ndAt L j)).map (fun e => (j, e))
theorem allQ_succ (L : List Nd) (k : Nat) : allQ L (k + 1) = allQ L k ++ (entN (ndAt L k)).map (fun e => (k, e)) := by
  unfold allQ
  rw [List.range_succ, List.flatMap_append]
  simp
theorem ent_len {zs : List Int} : ∀ {k : Nat} {es : List (ByteArray × Nat × Nat)}, entT zs k = some es → es.length ≤ k
  | 0, es, h => by simp [entT] at h; subst h; simp
  | k + 1, es, h => by
    unfold entT at h
    cases hq : entT zs k with
    | none => rw [hq] at h; cases h
    | some fs =>
      rw [hq] at h
      have ih := ent_len hq
      simp only [] at h
      split at h
      · cases h; omega
      · split at h
        · cases h; simp; omega
        · cases h
theorem dirOk_lenQ {zs : List Int} (h : dirOk zs = true) : zs.length ≤ 262144 := by
  unfold dirOk at h
  simp only [Bool.and_eq_true, decide_eq_true_eq] at h
  exact h.2.1
theorem entN_len (x : Nd) (h : x.k = 2 → dirOk x.d = true) : (entN x).length ≤ 8192 := by
  unfold entN
  by_cases hk : x.k = 2
  · rw [if_pos hk]
    have hl := dirOk_lenQ (h hk)
    cases he : entT x.d (x.d.length / 32) with
    | none => simp
    | some es =>
      have := ent_len he
      simp
      omega
  · rw [if_neg hk]; simp
/-- Whether an entry of directory k may stand there, as the model asks. -/
def entOkB (L : List Nd) (k : Nat) (e : ByteArray × Nat × Nat) : Bool := decide (e.2.1 < L.length) && decide (e.2.1 ≠ 1) && decide ((ndAt L e.2.1).k = (e.2.2 : Int)) && !(decide (k = 1) && (e.1.toList == [46, 115, 110, 97, 112, 115, 104, 111, 116]))
/-- The entries of the first k nodes are right. -/
def EntTo (L : List Nd) (k : Nat) : Prop := ∀ j, j < k → (ndAt L j).k = 2 → dirOk (ndAt L j).d = true ∧ ∀ e ∈ entN (ndAt L j), entOkB L j e = true
theorem EntTo.succ {L : List Nd} {k : Nat} (h : EntTo L k) (h2 : (ndAt L k).k = 2 → dirOk (ndAt L k).d = true ∧ ∀ e ∈ entN (ndAt L k), entOkB L k e = true) : EntTo L (k + 1) := by
  intro j hj
  rcases Nat.lt_or_ge j k with h1 | h1
  · exact h j h1
  · have : j = k := by omega
    subst this; exact h2
theorem allQ_len {L : List Nd} : ∀ {k : Nat}, EntTo L k → (allQ L k).length ≤ k * 8192
  | 0, _ => by simp [allQ]
  | k + 1, h => by
    have ih := allQ_len (L := L) (k := k) (fun j hj => h j (by omega))
    have h2 := entN_len (ndAt L k) (fun hk => (h k (by omega) hk).1)
    rw [allQ_succ, List.length_append, List.length_map]
    omega
end Go.Proofs.YtplieplmhdfndaaGreatDoor

namespace Go.Proofs.YtplieplmhdfndaaGreatDoor
set_option linter.unusedVariables false
set_option linter.unusedSimpArgs false
open Go.RowKit

theorem dirOk_nil : dirOk [] = true := by simp [dirOk, entT]
theorem dirOk_bad {zs : List Int} (h : zs.length % 512 ≠ 0 ∨ 262144 < zs.length) : dirOk zs = false := by
  unfold dirOk
  rcases h with h | h
  · rw [decide_eq_false h]; rfl
  · rw [decide_eq_false (by omega : ¬ zs.length ≤ 262144)]; simp
theorem entries_any (v : Value) (zs : List Int) (w : World) (h : Rd .u8 w v zs) (hbd : ∀ z ∈ zs, 0 ≤ z ∧ z < 256) :
    Calls Tryz.prog 93 #[v] w fun e w' => ∃ v', e = .returned (.tuple #[v', .bool (dirOk zs)]) ∧ (dirOk zs = true → ∃ es, entT zs (zs.length / 32) = some es ∧ w'.ownsRow w.heap.size 61 3 v' es.length (entsC es)) ∧ Below w.heap.size w w' := by
  have hh := h
  obtain ⟨a, cap, rfl, hm, hc, h1, h2⟩ := h
  by_cases hb : zs.length % 512 ≠ 0 ∨ 262144 < zs.length
  · refine (entries_bad a zs.length cap w hm hb).mono ?_
    rintro e w' ⟨v', rfl, hB⟩
    rw [dirOk_bad hb]
    exact ⟨v', rfl, fun h => (by cases h), hB⟩
  · rcases Nat.eq_zero_or_pos zs.length with h0 | h0
    · have e0 : zs = [] := List.eq_nil_of_length_eq_zero h0
      subst e0
      refine (entries_zero a cap w h2).mono ?_
      rintro e w' ⟨v', rfl, ho, hB⟩
      rw [dirOk_nil]
      exact ⟨v', rfl, fun _ => ⟨[], rfl, ho⟩, hB⟩
    · obtain ⟨b, off, rfl, _, _⟩ := hc (fun e => by rw [e] at h0; simp at h0)
      exact entries_pos b off cap zs w hh hbd (by omega) (by omega) h0
end Go.Proofs.YtplieplmhdfndaaGreatDoor
