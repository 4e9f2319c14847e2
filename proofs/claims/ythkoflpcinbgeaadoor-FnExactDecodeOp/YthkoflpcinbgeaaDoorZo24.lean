/- An operation's helpers: szOp, toOp, eqOp, markOp, heldOp. -/
import Derived.Test.YthkoflpcinbgeaaDoorZo14
import Derived.Test.YthkoflpcinbgeaaDoorZo04
namespace Go.Proofs.YthkoflpcinbgeaaDoor
set_option linter.unusedVariables false
set_option linter.unusedSimpArgs false
open Go.RowKit

theorem own_asideO {w : World} {base : Nat} {e : TypeId} {v : Value} {n : Nat} {xs : List Value} (hr : w.ownsRow base e 1 v n xs) (a : Addr) (u : Value) (hb : a.block < base) : (w.setCell a u).ownsRow base e 1 v n xs :=
  hr.kept (w' := w.setCell a u) (row := some a.block) ⟨rfl, rfl, rfl, by simp, fun k hk hne => Below.heap_setCell w a u k (fun e => hne (by rw [e]))⟩ (by
    cases hv : v.ownBlock with
    | none => exact .inl rfl
    | some k => exact .inr (fun e => by have := (hr.lt k hv).1; injection e with e; omega))
theorem szB_any (v : Value) (zs : List Int) (l : Int) (w : World) (h : Rd .u8 w v zs) (h0 : 0 ≤ l) (h1 : l ≤ 1048576) :
    Calls Tryd.prog 21 #[v, .int .i64 l] w fun e w' => e = .returned (.int .i64 (if l < (zs.length : Int) then -1 else l - zs.length)) ∧ w' = w := by
  have hm := h.len
  unfold maxLen at hm
  obtain ⟨a, cap, rfl, _⟩ := h
  by_cases hb : l < (zs.length : Int)
  · rw [if_pos hb]
    go_enter Tryd.func21, Tryd.ntmps21
    go_wp2
    go_ret
    exact ⟨rfl, rfl⟩
  · rw [if_neg hb]
    go_enter Tryd.func21, Tryd.ntmps21
    go_wp2
    go_ret
    exact ⟨rfl, rfl⟩
/-- What is small enough: the law looks at no other. -/
def smallO (p q : ByteArray) (n : Nat) : Prop := p.size + q.size + n ≤ 1048576
set_option maxHeartbeats 1000000 in
theorem szOp_any (K A B U G : Int) (p q : ByteArray) (v : Value) (zs : List Int) (w : World) (h : Rd .u8 w v zs) (hp : p.size ≤ maxLen) (hq : q.size ≤ maxLen) :
    Calls Tryd.prog 6 #[.agg (opC K A B U G p q v), .int .i64 1048576] w fun e w' => ∃ z : Int, e = .returned (.int .i64 z) ∧ (¬ z < 0 → smallO p q zs.length) ∧ Below w.heap.size w w' := by
  have HR := hide h
  unfold maxLen at hp hq
  have hsh : ∃ a cap, v = .slice a zs.length cap := by obtain ⟨a, cap, h1, _⟩ := h; exact ⟨a, cap, h1⟩
  obtain ⟨a, cap, rfl⟩ := hsh
  have HB := hide (show Below w.heap.size w (w.alloc (.cells (opC K A B U G p q (.slice a zs.length cap)) 24)) from (Below.refl _ _).alloc (Nat.le_refl _) _)
  have c5 : (w.alloc (.cells (opC K A B U G p q (.slice a zs.length cap)) 24)).cell? ⟨w.heap.size, 5, none⟩ = some (.string p) := ((Blk.new w _ _).cell 5).trans rfl
  have c6 : (w.alloc (.cells (opC K A B U G p q (.slice a zs.length cap)) 24)).cell? ⟨w.heap.size, 6, none⟩ = some (.string q) := ((Blk.new w _ _).cell 6).trans rfl
  have c7 : (w.alloc (.cells (opC K A B U G p q (.slice a zs.length cap)) 24)).cell? ⟨w.heap.size, 7, none⟩ = some (.slice a zs.length cap) := ((Blk.new w _ _).cell 7).trans rfl
  clear h
  by_cases h1 : (1048576 : Int) < (p.size : Int)
  · go_enter Tryd.func6, Tryd.ntmps6
    go_wp2
    go_ret
    exact ⟨-1, rfl, fun h => by omega, HB.out⟩
  by_cases h2 : (1048576 : Int) - (p.size : Int) < (q.size : Int)
  · go_enter Tryd.func6, Tryd.ntmps6
    go_wp2
    go_ret
    exact ⟨-1, rfl, fun h => by omega, HB.out⟩
  by_cases h3 : (1048576 : Int) - (p.size : Int) - (q.size : Int) < (zs.length : Int)
  · go_enter Tryd.func6, Tryd.ntmps6
    go_wp2_with (go_at_call 21; refine (szB_any _ zs (1048576 - (p.size : Int) - (q.size : Int)) _ (HR.out.below HB.out) (by omega) (by omega)).mono ?_; rintro e w1 ⟨rfl, rfl⟩; rw [if_pos h3])
    go_ret
    exact ⟨-1, rfl, fun h => by omega, HB.out⟩
  · go_enter Tryd.func6, Tryd.ntmps6
    go_wp2_with (go_at_call 21; refine (szB_any _ zs (1048576 - (p.size : Int) - (q.size : Int)) _ (HR.out.below HB.out) (by omega) (by omega)).mono ?_; rintro e w1 ⟨rfl, rfl⟩; rw [if_neg h3])
    go_ret
    exact ⟨_, rfl, fun _ => by unfold smallO; omega, HB.out⟩

theorem toOp_lit (K A B U G : Int) (p q : ByteArray) (v : Value) (zs : List Int) (w : World) (h : Rd .u8 w v zs) (hn : zs.length ≤ 1048576) :
    Calls Tryd.prog 8 #[.agg #[.int .i64 K, .int .i64 A, .int .i64 B, .int .i64 U, .int .i64 G, .string p, .string q, v]] w fun x w' => ∃ v', x = .returned (.agg #[.int .i64 K, .int .i64 A, .int .i64 B, .int .i64 U, .int .i64 G, .string p, .string q, v']) ∧ w'.ownsRow w.heap.size 5 1 v' zs.length (zs.map (Value.int .u8)) ∧ Below w.heap.size w w' := by
  have HR := hide h
  have hsh : ∃ a cap, v = .slice a zs.length cap := by obtain ⟨a, cap, h1, _⟩ := h; exact ⟨a, cap, h1⟩
  obtain ⟨a, cap, rfl⟩ := hsh
  clear h
  go_enter Tryd.func8, Tryd.ntmps8
  go_wp2_with fail
  refine (toByteS_any _ zs _ (HR.out.below ?_) (by omega)).mono ?_
  · exact (((Below.refl _ _).alloc (Nat.le_refl _) _).alloc (by simp) _).alloc (by simp; omega) _
  rintro x w1 ⟨v1, rfl, o1, b1⟩
  have hz2 : ∃ a1 cap1, v1 = .slice a1 zs.length cap1 := by obtain ⟨a1, cap1, h1, _⟩ := Rd.own o1; exact ⟨a1, cap1, h1⟩
  obtain ⟨a1, cap1, rfl⟩ := hz2
  have hz1 := (Blk.new _ _ _).below b1 (by simp)
  simp only [World.size_alloc] at hz1
  have hz0 := ((Blk.new _ _ _).alloc _).below b1 (by simp)
  simp only [World.size_alloc] at hz0
  have hB : Below w.heap.size w w1 := ((((Below.refl _ _).alloc (Nat.le_refl _) _).alloc (by simp) _).alloc (by simp; omega) _).trans (b1.mono (by simp; omega))
  have f0 := hz0.frozen 0
  have d0 := (hz0.cell 0).trans (show _ = some (.int .i64 0) from rfl)
  have f1 := hz0.frozen 1
  have d1 := (hz0.cell 1).trans (show _ = some (.int .i64 0) from rfl)
  have f2 := hz0.frozen 2
  have d2 := (hz0.cell 2).trans (show _ = some (.int .i64 0) from rfl)
  have f3 := hz0.frozen 3
  have d3 := (hz0.cell 3).trans (show _ = some (.int .i64 0) from rfl)
  have f4 := hz0.frozen 4
  have d4 := (hz0.cell 4).trans (show _ = some (.int .i64 0) from rfl)
  have f5 := hz0.frozen 5
  have d5 := (hz0.cell 5).trans (show _ = some (.string ⟨#[]⟩) from rfl)
  have f6 := hz0.frozen 6
  have d6 := (hz0.cell 6).trans (show _ = some (.string ⟨#[]⟩) from rfl)
  have f7 := hz0.frozen 7
  have d7 := (hz0.cell 7).trans (show _ = some (.slice none 0 0) from rfl)
  have g7 := hz1.frozen 7
  have c0 := (hz1.cell 0).trans (show _ = some (.int .i64 K) from rfl)
  have c1 := (hz1.cell 1).trans (show _ = some (.int .i64 A) from rfl)
  have c2 := (hz1.cell 2).trans (show _ = some (.int .i64 B) from rfl)
  have c3 := (hz1.cell 3).trans (show _ = some (.int .i64 U) from rfl)
  have c4 := (hz1.cell 4).trans (show _ = some (.int .i64 G) from rfl)
  have c5 := (hz1.cell 5).trans (show _ = some (.string p) from rfl)
  have c6 := (hz1.cell 6).trans (show _ = some (.string q) from rfl)
  have c7 := (hz1.cell 7).trans (show _ = some (.slice none 0 0) from rfl)
  have ho : w1.ownsRow (w.heap.size + 3) 5 1 (.slice a1 zs.length cap1) zs.length (zs.map (Value.int .u8)) := own_mono o1 (by simp)
  have KK := hide (And.intro hB ho)
  have KZ := hide hz0
  clear hz1 hz0 hB ho o1 b1
  go_wp2
  have q0 := KZ.out.other ⟨w.heap.size + 1 + 1, 7, none⟩ (.slice a1 zs.length cap1) (by simp)
  have q1 : Blk _ _ #[.int .i64 K, .int .i64 0, .int .i64 0, .int .i64 0, .int .i64 0, .string ⟨#[]⟩, .string ⟨#[]⟩, .slice none 0 0] 28 := q0.set 0 (.int .i64 K)
  have q2 : Blk _ _ #[.int .i64 K, .int .i64 A, .int .i64 0, .int .i64 0, .int .i64 0, .string ⟨#[]⟩, .string ⟨#[]⟩, .slice none 0 0] 28 := q1.set 1 (.int .i64 A)
  have q3 : Blk _ _ #[.int .i64 K, .int .i64 A, .int .i64 B, .int .i64 0, .int .i64 0, .string ⟨#[]⟩, .string ⟨#[]⟩, .slice none 0 0] 28 := q2.set 2 (.int .i64 B)
  have q4 : Blk _ _ #[.int .i64 K, .int .i64 A, .int .i64 B, .int .i64 U, .int .i64 0, .string ⟨#[]⟩, .string ⟨#[]⟩, .slice none 0 0] 28 := q3.set 3 (.int .i64 U)
  have q5 : Blk _ _ #[.int .i64 K, .int .i64 A, .int .i64 B, .int .i64 U, .int .i64 G, .string ⟨#[]⟩, .string ⟨#[]⟩, .slice none 0 0] 28 := q4.set 4 (.int .i64 G)
  have q6 : Blk _ _ #[.int .i64 K, .int .i64 A, .int .i64 B, .int .i64 U, .int .i64 G, .string p, .string ⟨#[]⟩, .slice none 0 0] 28 := q5.set 5 (.string p)
  have q7 : Blk _ _ #[.int .i64 K, .int .i64 A, .int .i64 B, .int .i64 U, .int .i64 G, .string p, .string q, .slice none 0 0] 28 := q6.set 6 (.string q)
  have q8 : Blk _ _ #[.int .i64 K, .int .i64 A, .int .i64 B, .int .i64 U, .int .i64 G, .string p, .string q, .slice a1 zs.length cap1] 28 := q7.set 7 (.slice a1 zs.length cap1)
  have KQ := hide q8
  clear q0 q1 q2 q3 q4 q5 q6 q7 q8 KZ
  refine bodyPost_ret (v := .agg #[.int .i64 K, .int .i64 A, .int .i64 B, .int .i64 U, .int .i64 G, .string p, .string q, .slice a1 zs.length cap1]) ?_ rfl ⟨_, rfl, own_mono ?_ (by omega : w.heap.size ≤ w.heap.size + 3), ?_⟩
  · exact results_cell_row rfl _ _ (w.heap.size + 1) 28 #[.int .i64 K, .int .i64 A, .int .i64 B, .int .i64 U, .int .i64 G, .string p, .string q, .slice a1 zs.length cap1] (0, 0) _ rfl KQ.out Tryd.underlying28 rfl (by kernel_rfl)
  · repeat (refine own_asideO ?_ _ _ (by simp <;> omega))
    exact KK.out.2
  · repeat (refine Below.setCell ?_ (by simp <;> omega) _)
    exact KK.out.1
theorem toOp_any (K A B U G : Int) (p q : ByteArray) (v : Value) (zs : List Int) (w : World) (h : Rd .u8 w v zs) (hn : zs.length ≤ 1048576) :
    Calls Tryd.prog 8 #[.agg (opC K A B U G p q v)] w fun x w' => ∃ v', x = .returned (.agg (opC K A B U G p q v')) ∧ w'.ownsRow w.heap.size 5 1 v' zs.length (zs.map (Value.int .u8)) ∧ Below w.heap.size w w' := toOp_lit K A B U G p q v zs w h hn
theorem eqOp_lit (K A B U G : Int) (p q : ByteArray) (v1 v2 : Value) (zs : List Int) (w : World) (h1 : Rd .u8 w v1 zs) (h2 : Rd .u8 w v2 zs) :
    Calls Tryd.prog 11 #[.agg #[.int .i64 K, .int .i64 A, .int .i64 B, .int .i64 U, .int .i64 G, .string p, .string q, v1], .agg #[.int .i64 K, .int .i64 A, .int .i64 B, .int .i64 U, .int .i64 G, .string p, .string q, v2]] w fun x w' => x = .returned (.bool true) ∧ Below w.heap.size w w' := by
  have H := hide (And.intro h1 h2)
  have hsh : ∃ a cap, v1 = .slice a zs.length cap := by obtain ⟨a, cap, h1, _⟩ := h1; exact ⟨a, cap, h1⟩
  obtain ⟨a, cap, rfl⟩ := hsh
  have hsh : ∃ a cap, v2 = .slice a zs.length cap := by obtain ⟨a, cap, h1, _⟩ := h2; exact ⟨a, cap, h1⟩
  obtain ⟨a2, cap2, rfl⟩ := hsh
  have HB := hide (show ∀ o o2, Below w.heap.size w ((w.alloc o).alloc o2) from fun o o2 => ((Below.refl _ _).alloc (Nat.le_refl _) o).alloc (by simp) o2)
  clear h1 h2
  go_enter Tryd.func11, Tryd.ntmps11
  go_wp2_with (go_at_call 10; refine (eqByteS_same _ _ zs _ (H.out.1.below (HB.out _ _)) (H.out.2.below (HB.out _ _))).mono ?_; rintro e w1 ⟨rfl, b1⟩; have HB2 := hide ((HB.out _ _).trans (b1.mono (HB.out _ _).size)); clear b1)
  go_ret
  exact ⟨rfl, HB2.out⟩
theorem eqOp_same (K A B U G : Int) (p q : ByteArray) (v1 v2 : Value) (zs : List Int) (w : World) (h1 : Rd .u8 w v1 zs) (h2 : Rd .u8 w v2 zs) :
    Calls Tryd.prog 11 #[.agg (opC K A B U G p q v1), .agg (opC K A B U G p q v2)] w fun x w' => x = .returned (.bool true) ∧ Below w.heap.size w w' := eqOp_lit K A B U G p q v1 v2 zs w h1 h2
theorem markOp_lit (K A B U G : Int) (p q : ByteArray) (v : Value) (base n k0 : Nat) (xs : List Value) (w : World) (h : w.ownsRow base 5 1 v n xs) (hn : n ≤ 140737488355328) (hk0 : k0 ≤ 140737488355328) :
    Calls Tryd.prog 12 #[.agg #[.int .i64 K, .int .i64 A, .int .i64 B, .int .i64 U, .int .i64 G, .string p, .string q, v], .int .i64 k0] w fun e w' => e = .returned (.int .i64 ((k0 + n : Nat) : Int)) ∧ w'.ownsRow base 5 1 v n ((mk8 k0 n).map (Value.int .u8)) ∧ w.grownBy w' v.ownBlock := by
  have H := hide h
  have hsh : ∃ a cap, v = .slice a n cap := by rcases h.2 with ⟨rfl, rfl⟩ | ⟨g, cap, _, rfl, _⟩ <;> exact ⟨_, _, rfl⟩
  obtain ⟨a, cap, rfl⟩ := hsh
  clear h
  go_enter Tryd.func12, Tryd.ntmps12
  go_wp2_with (go_at_call 13; refine (markByteS_any _ base n k0 xs _ (H.out.alloc _) hn hk0).mono ?_; rintro e w1 ⟨rfl, o1, g1⟩; have HW := hide (And.intro o1 (grownBy_trans (World.grownBy_alloc _ _ _) g1)); clear o1 g1)
  go_ret
  exact ⟨rfl, HW.out.1, HW.out.2⟩
theorem markOp_any (K A B U G : Int) (p q : ByteArray) (v : Value) (base n k0 : Nat) (xs : List Value) (w : World) (h : w.ownsRow base 5 1 v n xs) (hn : n ≤ 140737488355328) (hk0 : k0 ≤ 140737488355328) :
    Calls Tryd.prog 12 #[.agg (opC K A B U G p q v), .int .i64 k0] w fun e w' => e = .returned (.int .i64 ((k0 + n : Nat) : Int)) ∧ w'.ownsRow base 5 1 v n ((mk8 k0 n).map (Value.int .u8)) ∧ w.grownBy w' v.ownBlock := markOp_lit K A B U G p q v base n k0 xs w h hn hk0
theorem heldOp_lit (K A B U G : Int) (p q : ByteArray) (v : Value) (n k0 : Nat) (w : World) (h : Rd .u8 w v (mk8 k0 n)) (hn : n ≤ 140737488355328) (hk0 : k0 ≤ 140737488355328) :
    Calls Tryd.prog 18 #[.agg #[.int .i64 K, .int .i64 A, .int .i64 B, .int .i64 U, .int .i64 G, .string p, .string q, v], .int .i64 k0] w fun e w' => e = .returned (.int .i64 ((k0 + n : Nat) : Int)) ∧ Below w.heap.size w w' := by
  have H := hide h
  have hsh : ∃ a cap, v = .slice a n cap := by obtain ⟨a, cap, h1, _⟩ := h; rw [mk8_len] at h1; exact ⟨a, cap, h1⟩
  obtain ⟨a, cap, rfl⟩ := hsh
  have HB := hide (show ∀ o, Below w.heap.size w (w.alloc o) from fun o => (Below.refl _ _).alloc (Nat.le_refl _) o)
  clear h
  go_enter Tryd.func18, Tryd.ntmps18
  go_wp2_with (go_at_call 14; refine (heldByteS_any _ n k0 _ (H.out.below (HB.out _)) hn hk0).mono ?_; rintro e w1 ⟨rfl, rfl⟩)
  go_ret
  exact ⟨rfl, HB.out _⟩
theorem heldOp_any (K A B U G : Int) (p q : ByteArray) (v : Value) (n k0 : Nat) (w : World) (h : Rd .u8 w v (mk8 k0 n)) (hn : n ≤ 140737488355328) (hk0 : k0 ≤ 140737488355328) :
    Calls Tryd.prog 18 #[.agg (opC K A B U G p q v), .int .i64 k0] w fun e w' => e = .returned (.int .i64 ((k0 + n : Nat) : Int)) ∧ Below w.heap.size w w' := heldOp_lit K A B U G p q v n k0 w h hn hk0
end Go.Proofs.YthkoflpcinbgeaaDoor
