/- Nodes: szNode, toNode, eqNode. -/
import Derived.Test.YtdkdmakjkodomaaAccA
import Derived.Test.YtdkdmakjkodomaaBytes
namespace Go.Proofs.Ytdkdmakjkodomaa
set_option linter.unusedVariables false
set_option linter.unusedSimpArgs false
open Go.RowKit

theorem own_aside {w : World} {base : Nat} {e : TypeId} {v : Value} {n : Nat} {xs : List Value} (hr : w.ownsRow base e 1 v n xs) (a : Addr) (u : Value) (hb : a.block < base) : (w.setCell a u).ownsRow base e 1 v n xs :=
  hr.kept (w' := w.setCell a u) (row := some a.block) ⟨rfl, rfl, rfl, by simp, fun k hk hne => Below.heap_setCell w a u k (fun e => hne (by rw [e]))⟩ (by
    cases hv : v.ownBlock with
    | none => exact .inl rfl
    | some k => exact .inr (fun e => by have := (hr.lt k hv).1; injection e with e; omega))

theorem szByteS_any (v : Value) (zs : List Int) (l : Int) (w : World) (h : Rd .u8 w v zs) (h0 : 0 ≤ l) (h1 : l ≤ 1048576) :
    Calls Try.prog 24 #[v, .int .i64 l] w fun e w' => e = .returned (.int .i64 (if l < (zs.length : Int) then -1 else l - zs.length)) ∧ w' = w := by
  have hm := h.len
  unfold maxLen at hm
  obtain ⟨a, cap, rfl, _⟩ := h
  by_cases hb : l < (zs.length : Int)
  · rw [if_pos hb]
    go_enter Try.func24, Try.ntmps24
    go_wp2
    go_ret
    exact ⟨rfl, rfl⟩
  · rw [if_neg hb]
    go_enter Try.func24, Try.ntmps24
    go_wp2
    go_ret
    exact ⟨rfl, rfl⟩

theorem szNode_any (k l m u g p e t c : Int) (v : Value) (zs : List Int) (left : Int) (w : World) (h : Rd .u8 w v zs) (h0 : 0 ≤ left) (h1 : left ≤ 1048576) :
    Calls Try.prog 10 #[nodeV k l m u g p e t c v, .int .i64 left] w fun e w' => e = .returned (.int .i64 (if left < (zs.length : Int) then -1 else left - zs.length)) ∧ Below w.heap.size w w' := by
  have HR := hide h
  have hsh : ∃ a cap, v = .slice a zs.length cap := by obtain ⟨a, cap, h1, _⟩ := h; exact ⟨a, cap, h1⟩
  obtain ⟨a, cap, rfl⟩ := hsh
  have HB := hide (show ∀ o, Below w.heap.size w (w.alloc o) from fun o => (Below.refl _ _).alloc (Nat.le_refl _) o)
  clear h
  by_cases hb : left < (zs.length : Int)
  · rw [if_pos hb]
    go_enter Try.func10, Try.ntmps10
    go_wp2_with (go_at_call 24; refine (szByteS_any _ zs left _ (HR.out.below (HB.out _)) h0 h1).mono ?_; rintro e w1 ⟨rfl, rfl⟩; rw [if_pos hb])
    go_ret
    exact ⟨rfl, HB.out _⟩
  · rw [if_neg hb]
    go_enter Try.func10, Try.ntmps10
    go_wp2_with (go_at_call 24; refine (szByteS_any _ zs left _ (HR.out.below (HB.out _)) h0 h1).mono ?_; rintro e w1 ⟨rfl, rfl⟩; rw [if_neg hb])
    go_ret
    exact ⟨rfl, HB.out _⟩

theorem toNode_any (k l m u g p e t c : Int) (v : Value) (zs : List Int) (w : World) (h : Rd .u8 w v zs) (hn : zs.length ≤ 1048576) :
    Calls Try.prog 12 #[nodeV k l m u g p e t c v] w fun x w' => ∃ v', x = .returned (nodeV k l m u g p e t c v') ∧ w'.ownsRow w.heap.size 5 1 v' zs.length (zs.map (Value.int .u8)) ∧ Below w.heap.size w w' := by
  have HR := hide h
  have hsh : ∃ a cap, v = .slice a zs.length cap := by obtain ⟨a, cap, h1, _⟩ := h; exact ⟨a, cap, h1⟩
  obtain ⟨a, cap, rfl⟩ := hsh
  clear h
  go_enter Try.func12, Try.ntmps12
  go_wp2_with fail
  refine (toByteS_any _ zs _ (HR.out.below ?_) (by omega)).mono ?_
  · exact (((Below.refl _ _).alloc (Nat.le_refl _) _).alloc (by simp) _).alloc (by simp; omega) _
  rintro x w1 ⟨v1, rfl, o1, b1⟩
  have hz2 : ∃ a1 cap1, v1 = .slice a1 zs.length cap1 := by obtain ⟨a1, cap1, h1, _⟩ := Rd.own o1; exact ⟨a1, cap1, h1⟩
  obtain ⟨a1, cap1, rfl⟩ := hz2
  have hz1 := (Blk.new _ _ _).below b1 (by simp)
  simp only [World.size_alloc] at hz1
  have hz0 := ((Blk.new _ _ _).alloc _).below b1 (by simp)
  simp only [World.size_alloc] at hz0
  have hB : Below w.heap.size w w1 := ((((Below.refl _ _).alloc (Nat.le_refl _) _).alloc (by simp) _).alloc (by simp; omega) _).trans (b1.mono (by simp; omega))
  have f0 := hz0.frozen 0
  have d0 := (hz0.cell 0).trans (show _ = some (.int .i64 0) from rfl)
  have f1 := hz0.frozen 1
  have d1 := (hz0.cell 1).trans (show _ = some (.int .i64 0) from rfl)
  have f2 := hz0.frozen 2
  have d2 := (hz0.cell 2).trans (show _ = some (.int .i64 0) from rfl)
  have f3 := hz0.frozen 3
  have d3 := (hz0.cell 3).trans (show _ = some (.int .i64 0) from rfl)
  have f4 := hz0.frozen 4
  have d4 := (hz0.cell 4).trans (show _ = some (.int .i64 0) from rfl)
  have f5 := hz0.frozen 5
  have d5 := (hz0.cell 5).trans (show _ = some (.int .i64 0) from rfl)
  have f6 := hz0.frozen 6
  have d6 := (hz0.cell 6).trans (show _ = some (.int .i64 0) from rfl)
  have f7 := hz0.frozen 7
  have d7 := (hz0.cell 7).trans (show _ = some (.int .i64 0) from rfl)
  have f8 := hz0.frozen 8
  have d8 := (hz0.cell 8).trans (show _ = some (.int .i64 0) from rfl)
  have f9 := hz0.frozen 9
  have d9 := (hz0.cell 9).trans (show _ = some (.slice none 0 0) from rfl)
  have g9 := hz1.frozen 9
  have c0 := (hz1.cell 0).trans (show _ = some (.int .i64 k) from rfl)
  have c1 := (hz1.cell 1).trans (show _ = some (.int .i64 l) from rfl)
  have c2 := (hz1.cell 2).trans (show _ = some (.int .i64 m) from rfl)
  have c3 := (hz1.cell 3).trans (show _ = some (.int .i64 u) from rfl)
  have c4 := (hz1.cell 4).trans (show _ = some (.int .i64 g) from rfl)
  have c5 := (hz1.cell 5).trans (show _ = some (.int .i64 p) from rfl)
  have c6 := (hz1.cell 6).trans (show _ = some (.int .i64 e) from rfl)
  have c7 := (hz1.cell 7).trans (show _ = some (.int .i64 t) from rfl)
  have c8 := (hz1.cell 8).trans (show _ = some (.int .i64 c) from rfl)
  have c9 := (hz1.cell 9).trans (show _ = some (.slice none 0 0) from rfl)
  have ho : w1.ownsRow (w.heap.size + 3) 5 1 (.slice a1 zs.length cap1) zs.length (zs.map (Value.int .u8)) := own_mono o1 (by simp)
  have K := hide (And.intro hB ho)
  have KZ := hide hz0
  clear hz1 hz0 hB ho o1 b1
  go_wp2
  have q0 := KZ.out.other ⟨w.heap.size + 1 + 1, 9, none⟩ (.slice a1 zs.length cap1) (by simp)
  have q1 : Blk _ _ #[.int .i64 k, .int .i64 0, .int .i64 0, .int .i64 0, .int .i64 0, .int .i64 0, .int .i64 0, .int .i64 0, .int .i64 0, .slice none 0 0] 27 := q0.set 0 (.int .i64 k)
  have q2 : Blk _ _ #[.int .i64 k, .int .i64 l, .int .i64 0, .int .i64 0, .int .i64 0, .int .i64 0, .int .i64 0, .int .i64 0, .int .i64 0, .slice none 0 0] 27 := q1.set 1 (.int .i64 l)
  have q3 : Blk _ _ #[.int .i64 k, .int .i64 l, .int .i64 m, .int .i64 0, .int .i64 0, .int .i64 0, .int .i64 0, .int .i64 0, .int .i64 0, .slice none 0 0] 27 := q2.set 2 (.int .i64 m)
  have q4 : Blk _ _ #[.int .i64 k, .int .i64 l, .int .i64 m, .int .i64 u, .int .i64 0, .int .i64 0, .int .i64 0, .int .i64 0, .int .i64 0, .slice none 0 0] 27 := q3.set 3 (.int .i64 u)
  have q5 : Blk _ _ #[.int .i64 k, .int .i64 l, .int .i64 m, .int .i64 u, .int .i64 g, .int .i64 0, .int .i64 0, .int .i64 0, .int .i64 0, .slice none 0 0] 27 := q4.set 4 (.int .i64 g)
  have q6 : Blk _ _ #[.int .i64 k, .int .i64 l, .int .i64 m, .int .i64 u, .int .i64 g, .int .i64 p, .int .i64 0, .int .i64 0, .int .i64 0, .slice none 0 0] 27 := q5.set 5 (.int .i64 p)
  have q7 : Blk _ _ #[.int .i64 k, .int .i64 l, .int .i64 m, .int .i64 u, .int .i64 g, .int .i64 p, .int .i64 e, .int .i64 0, .int .i64 0, .slice none 0 0] 27 := q6.set 6 (.int .i64 e)
  have q8 : Blk _ _ #[.int .i64 k, .int .i64 l, .int .i64 m, .int .i64 u, .int .i64 g, .int .i64 p, .int .i64 e, .int .i64 t, .int .i64 0, .slice none 0 0] 27 := q7.set 7 (.int .i64 t)
  have q9 : Blk _ _ #[.int .i64 k, .int .i64 l, .int .i64 m, .int .i64 u, .int .i64 g, .int .i64 p, .int .i64 e, .int .i64 t, .int .i64 c, .slice none 0 0] 27 := q8.set 8 (.int .i64 c)
  have q10 : Blk _ _ #[.int .i64 k, .int .i64 l, .int .i64 m, .int .i64 u, .int .i64 g, .int .i64 p, .int .i64 e, .int .i64 t, .int .i64 c, .slice a1 zs.length cap1] 27 := q9.set 9 (.slice a1 zs.length cap1)
  have KQ := hide q10
  clear q0 q1 q2 q3 q4 q5 q6 q7 q8 q9 q10 KZ
  refine bodyPost_ret (v := nodeV k l m u g p e t c (.slice a1 zs.length cap1)) ?_ rfl ⟨_, rfl, own_mono ?_ (by omega : w.heap.size ≤ w.heap.size + 3), ?_⟩
  · exact results_cell_row rfl _ _ (w.heap.size + 1) 27 #[.int .i64 k, .int .i64 l, .int .i64 m, .int .i64 u, .int .i64 g, .int .i64 p, .int .i64 e, .int .i64 t, .int .i64 c, .slice a1 zs.length cap1] (0, 0) _ rfl KQ.out Try.underlying27 rfl (by kernel_rfl)
  · repeat (refine own_aside ?_ _ _ (by simp <;> omega))
    exact K.out.2
  · repeat (refine Below.setCell ?_ (by simp <;> omega) _)
    exact K.out.1
end Go.Proofs.Ytdkdmakjkodomaa
