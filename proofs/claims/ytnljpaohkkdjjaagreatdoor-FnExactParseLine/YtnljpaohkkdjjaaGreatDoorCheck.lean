/- The program's first fault that sticks: need, within, inside, at a check that lies at the head of block b. -/
import Derived.Test.YtnljpaohkkdjjaaGreatDoorAs2
import Derived.Test.YtnljpaohkkdjjaaGreatDoorPure
namespace Go.Proofs.YtnljpaohkkdjjaaGreatDoor
open Go.RowKit

/-- A check at the head of block b: its code, and no fault yet (ok), or a chain of faults with that code, from block lo on. -/
def Ck (w : World) (b lo : Nat) (code : Int) (ok : Bool) : Prop :=
  w.cell? ⟨b, 0, none⟩ = some (.int .i64 code) ∧ w.frozen? ⟨b, 1, none⟩ = false ∧ ∃ ev, w.cell? ⟨b, 1, none⟩ = some ev ∧ ((ok = true ∧ ev = .nilIface) ∨ (ok = false ∧ ∃ n, Flt w lo n ev code))
/-- Of what was there only the second cell of block b may have turned. -/
def Tch (b : Nat) (w w' : World) : Prop :=
  w.grownBy w' (some b) ∧ (∀ o, o ≠ 1 → w'.cell? ⟨b, o, none⟩ = w.cell? ⟨b, o, none⟩) ∧ ∀ o, w'.frozen? ⟨b, o, none⟩ = w.frozen? ⟨b, o, none⟩
theorem Tch.refl (b : Nat) (w : World) : Tch b w w := ⟨World.grownBy.refl _ _, fun _ _ => rfl, fun _ => rfl⟩
theorem Tch.trans {b : Nat} {w w1 w2 : World} (h1 : Tch b w w1) (h2 : Tch b w1 w2) : Tch b w w2 :=
  ⟨grownBy_trans h1.1 h2.1, fun o ho => (h2.2.1 o ho).trans (h1.2.1 o ho), fun o => (h2.2.2 o).trans (h1.2.2 o)⟩
theorem Tch.of_below {b : Nat} {w w' : World} (hlt : b < w.heap.size) (h : Below w.heap.size w w') : Tch b w w' :=
  ⟨⟨h.os, h.tape, h.output, h.size, fun k hk _ => h.block k hk⟩, fun o _ => h.cell (p := ⟨b, o, none⟩) hlt, fun o => h.frozen (p := ⟨b, o, none⟩) hlt⟩
theorem Tch.under {b B : Nat} {w0 w w' : World} (h : Tch b w w') (h0 : Below B w0 w) (hB : B ≤ b) (hs : B ≤ w.heap.size) : Below B w0 w' :=
  h0.grown h.1 hs (fun k e => by cases e; exact hB)
theorem Ck.lt {w : World} {b lo : Nat} {code : Int} {ok : Bool} (h : Ck w b lo code ok) : b < w.heap.size := cell_lt h.1
theorem Ck.below {w w' : World} {b lo : Nat} {code : Int} {ok : Bool} (h : Ck w b lo code ok) (hb : Below w.heap.size w w') : Ck w' b lo code ok := by
  obtain ⟨h1, h2, ev, h3, h4⟩ := h
  have hlt : b < w.heap.size := cell_lt h1
  refine ⟨(hb.cell (p := ⟨b, 0, none⟩) hlt).trans h1, (hb.frozen (p := ⟨b, 1, none⟩) hlt).trans h2, ev, (hb.cell (p := ⟨b, 1, none⟩) hlt).trans h3, ?_⟩
  rcases h4 with h4 | ⟨h4, n, h5⟩
  · exact .inl h4
  · exact .inr ⟨h4, n, h5.below hb⟩
/-- Kept behind what turns neither the check's block nor one from lo on. -/
theorem Ck.keep {w w' : World} {b lo : Nat} {code : Int} {ok : Bool} (h : Ck w b lo code ok) (hb : w'.heap[b]? = w.heap[b]?) (hk : ∀ k, k < w.heap.size → lo ≤ k → w'.heap[k]? = w.heap[k]?) : Ck w' b lo code ok := by
  obtain ⟨h1, h2, ev, h3, h4⟩ := h
  refine ⟨(World.cell?_of_block (a := ⟨b, 0, none⟩) hb).trans h1, (World.frozen?_of_block (a := ⟨b, 1, none⟩) hb).trans h2, ev, (World.cell?_of_block (a := ⟨b, 1, none⟩) hb).trans h3, ?_⟩
  rcases h4 with h4 | ⟨h4, n, h5⟩
  · exact .inl h4
  · exact .inr ⟨h4, n, h5.keep fun k o v hl hc => (World.cell?_of_block (a := ⟨k, o, none⟩) (hk k (cell_lt hc) hl)).trans hc⟩
/-- Kept behind writes to one row that is neither the check's nor one from lo on. -/
theorem Ck.grown {w w' : World} {b lo g : Nat} {code : Int} {ok : Bool} (h : Ck w b lo code ok) (hg : w.grownBy w' (some g)) (hne : b ≠ g) (hl : g < lo) : Ck w' b lo code ok :=
  h.keep (hg.block b h.lt (by simp; omega)) (fun k hk hlo => hg.block k hk (by simp; omega))
theorem Ck.relo {w : World} {b lo lo' : Nat} {code : Int} (h : Ck w b lo code true) : Ck w b lo' code true := by
  obtain ⟨h1, h2, ev, h3, h4⟩ := h
  rcases h4 with h4 | ⟨h4, _⟩
  · exact ⟨h1, h2, ev, h3, .inl h4⟩
  · cases h4
theorem Ck.fresh (w : World) (code : Int) (t : TypeId) : Ck (w.alloc (.cells #[.int .i64 code, .nilIface] t)) w.heap.size (w.heap.size + 1) code true :=
  ⟨by simp, by simp, .nilIface, by simp, .inl ⟨rfl, rfl⟩⟩

theorem inside_nil (b lo : Nat) (place : ByteArray) (code : Int) (ok : Bool) (w : World) (h : Ck w b lo code ok) :
    Calls Tryz.prog 58 #[.pointer (some ⟨b, 0, none⟩), .string place, .nilIface] w fun e w' => e = .returned (.tuple #[]) ∧ w' = w := by
  obtain ⟨h1, h2, ev, h3, h4⟩ := h
  rcases h4 with ⟨rfl, rfl⟩ | ⟨rfl, n, h5⟩
  · go_enter Tryz.func58, Tryz.ntmps58
    go_wp2
    go_end0
    exact ⟨rfl, rfl⟩
  · obtain ⟨t', x', rfl⟩ := h5.iface
    clear h5
    go_enter Tryz.func58, Tryz.ntmps58
    go_wp2
    go_end0
    exact ⟨rfl, rfl⟩

theorem inside_any (b lo : Nat) (place : ByteArray) (code : Int) (ok : Bool) (n : Nat) (v : Value) (w : World) (h : Ck w b lo code ok) (hv : Flt w lo n v code) (hlo : b < lo) (hsz : lo ≤ w.heap.size) :
    Calls Tryz.prog 58 #[.pointer (some ⟨b, 0, none⟩), .string place, v] w fun e w' => e = .returned (.tuple #[]) ∧ Ck w' b lo code false ∧ Tch b w w' := by
  have hlt := h.lt
  obtain ⟨h1, h2, ev, h3, h4⟩ := h
  rcases h4 with ⟨rfl, rfl⟩ | ⟨rfl, m, h5⟩
  · have HW : Hid (∀ w', w' = (w.setCell ⟨b, 1, none⟩ (.iface 122 (.pointer (some ⟨w.heap.size, 0, none⟩)))).alloc (.cells #[.string place, v] 124) → Ck w' b lo code false ∧ Tch b w w') := by
      rintro w' rfl
      have hnb : (⟨b, 1, none⟩ : Addr).block ≠ w.heap.size := by show b ≠ _; omega
      have hk : ∀ k o u, lo ≤ k → w.cell? ⟨k, o, none⟩ = some u → ((w.setCell ⟨b, 1, none⟩ (.iface 122 (.pointer (some ⟨w.heap.size, 0, none⟩)))).alloc (.cells #[.string place, v] 124)).cell? ⟨k, o, none⟩ = some u := by
        intro k o u hk hc
        have := cell_lt hc
        rw [World.cell?_alloc_lt _ _ ⟨k, o, none⟩ (by simpa using this), World.cell?_setCell_other _ _ _ _ (by intro e; injection e with e1; omega)]
        exact hc
      refine ⟨⟨?_, ?_, _, ?_, .inr ⟨rfl, n + 1, ⟨w.heap.size, v, rfl, hsz, ?_, hv.keep hk⟩⟩⟩, ⟨⟨rfl, rfl, rfl, by simp, fun k hk hn => ?_⟩, fun o ho => ?_, fun o => ?_⟩⟩
      · rw [World.cell?_alloc_lt _ _ ⟨b, 0, none⟩ (by simpa using hlt), World.cell?_setCell_other _ _ _ _ (by intro e; injection e with e1 e2; omega)]; exact h1
      · rw [World.frozen?_alloc_old _ _ ⟨b, 1, none⟩ (by simpa using hnb)]; simpa using h2
      · rw [World.cell?_alloc_lt _ _ ⟨b, 1, none⟩ (by simpa using hlt)]; exact World.cell?_setCell_same _ _ _ h3
      · rw [World.cell?_alloc_at _ _ _ _ (by simp)]; rfl
      · rw [Below.heap_alloc _ _ k (by simpa using hk)]
        exact Below.heap_setCell w _ _ k (fun h => hn (by rw [h]))
      · rw [World.cell?_alloc_lt _ _ ⟨b, o, none⟩ (by simpa using hlt), World.cell?_setCell_other _ _ _ _ (by intro e; injection e with e1 e2; omega)]
      · rw [World.frozen?_alloc_old _ _ ⟨b, o, none⟩ (by simpa using hnb)]; simp
    obtain ⟨t', x', rfl⟩ := hv.iface
    clear hv
    go_enter Tryz.func58, Tryz.ntmps58
    go_wp2
    go_end0
    exact ⟨rfl, HW.out _ rfl⟩
  · obtain ⟨t', x', rfl⟩ := h5.iface
    have HK : Hid (Ck w b lo code false) := ⟨h1, h2, _, h3, .inr ⟨rfl, m, h5⟩⟩
    obtain ⟨t2, x2, rfl⟩ := hv.iface
    clear h5 hv
    go_enter Tryz.func58, Tryz.ntmps58
    go_wp2
    go_end0
    exact ⟨rfl, HK.out, Tch.refl _ _⟩

theorem need_any (b lo : Nat) (place : ByteArray) (code : Int) (ok hd : Bool) (w : World) (h : Ck w b lo code ok) (hlo : b < lo) (hsz : lo ≤ w.heap.size) :
    Calls Tryz.prog 51 #[.pointer (some ⟨b, 0, none⟩), .string place, .bool hd] w fun e w' => e = .returned (.tuple #[]) ∧ Ck w' b lo code (ok && hd) ∧ Tch b w w' := by
  cases hd with
  | true =>
    have HK : Hid (Ck w b lo code (ok && true)) := by show Ck w b lo code (ok && true); simpa using h
    clear h
    go_enter Tryz.func51, Tryz.ntmps51
    go_wp2
    go_end0
    exact ⟨rfl, HK.out, Tch.refl _ _⟩
  | false =>
    have hlt := h.lt
    have hb0 : Below w.heap.size w (w.alloc (.cells #[.int .i64 code] 53)) := (Below.refl _ _).alloc (Nat.le_refl _) _
    have HK : Hid (Ck (w.alloc (.cells #[.int .i64 code] 53)) b lo code ok ∧ Flt (w.alloc (.cells #[.int .i64 code] 53)) lo 0 (.iface 51 (.pointer (some ⟨w.heap.size, 0, none⟩))) code) :=
      ⟨h.below hb0, w.heap.size, rfl, hsz, by simp⟩
    have h1 := h.1
    clear h
    go_enter Tryz.func51, Tryz.ntmps51
    go_wp2_with (go_at_call 58; refine (inside_any b lo place code ok 0 _ _ HK.out.1 HK.out.2 hlo (by simp; omega)).mono ?_; rintro e w' ⟨rfl, r1, r2⟩)
    go_end0
    refine ⟨rfl, by simpa using r1, (Tch.of_below hlt hb0).trans r2⟩

theorem within_any (b bl : Nat) (place : ByteArray) (code n lo hi : Int) (ok : Bool) (w : World) (h : Ck w b bl code ok) (hlo : b < bl) (hsz : bl ≤ w.heap.size) :
    Calls Tryz.prog 50 #[.pointer (some ⟨b, 0, none⟩), .string place, .int .i64 n, .int .i64 lo, .int .i64 hi] w fun e w' => e = .returned (.tuple #[]) ∧ Ck w' b bl code (ok && (decide (lo ≤ n) && decide (n ≤ hi))) ∧ Tch b w w' := by
  have HK : Hid (Ck w b bl code ok) := h
  clear h
  by_cases h1 : lo ≤ n <;> by_cases h2 : n ≤ hi
  all_goals
    go_enter Tryz.func50, Tryz.ntmps50
    go_wp2_with (go_at_call 51; refine (need_any b bl place code ok _ _ HK.out hlo hsz).mono ?_; rintro e w' ⟨rfl, r1, r2⟩)
    go_end0
    refine ⟨rfl, ?_, r2⟩
    first
    | (rw [show (decide (lo ≤ n) && decide (n ≤ hi)) = true by rw [Bool.and_eq_true]; simp; omega]; exact r1)
    | (rw [show (decide (lo ≤ n) && decide (n ≤ hi)) = false by rw [Bool.and_eq_false_iff]; simp; omega]; exact r1)

/-- What a look answers: nothing wrong, or a chain of faults. -/
def FaultIs (w : World) (lo : Nat) (ok : Bool) (ev : Value) (code : Int) : Prop := (ok = true ∧ ev = .nilIface) ∨ (ok = false ∧ ∃ m, Flt w lo m ev code)
theorem FaultIs.mono {w : World} {lo lo' : Nat} {ok : Bool} {ev : Value} {code : Int} (h : FaultIs w lo ok ev code) (hl : lo' ≤ lo) : FaultIs w lo' ok ev code := by
  rcases h with h | ⟨h, m, h2⟩
  · exact .inl h
  · exact .inr ⟨h, m, h2.mono hl⟩
theorem inside_both (b lo : Nat) (place : ByteArray) (code : Int) (ok ok1 : Bool) (ev : Value) (w : World) (h : Ck w b lo code ok) (hf : FaultIs w lo ok1 ev code) (hlo : b < lo) (hsz : lo ≤ w.heap.size) :
    Calls Tryz.prog 58 #[.pointer (some ⟨b, 0, none⟩), .string place, ev] w fun e w' => e = .returned (.tuple #[]) ∧ Ck w' b lo code (ok && ok1) ∧ Tch b w w' := by
  rcases hf with ⟨rfl, rfl⟩ | ⟨rfl, m, hm⟩
  · refine (inside_nil b lo place code ok w h).mono ?_
    rintro e w' ⟨rfl, rfl⟩
    exact ⟨rfl, by rw [Bool.and_true]; exact h, Tch.refl _ _⟩
  · refine (inside_any b lo place code ok m ev w h hm hlo hsz).mono ?_
    rintro e w' ⟨rfl, h1, h2⟩
    exact ⟨rfl, by rw [Bool.and_false]; exact h1, h2⟩

theorem FaultIs.below {w w' : World} {lo : Nat} {ok : Bool} {ev : Value} {code : Int} (h : FaultIs w lo ok ev code) (hb : Below w.heap.size w w') : FaultIs w' lo ok ev code := by
  rcases h with h | ⟨h, m, h2⟩
  · exact .inl h
  · exact .inr ⟨h, m, h2.below hb⟩
theorem Ck.fault {w : World} {b lo : Nat} {code : Int} {ok : Bool} (h : Ck w b lo code ok) : ∃ ev, w.cell? ⟨b, 1, none⟩ = some ev ∧ FaultIs w lo ok ev code := by
  obtain ⟨_, _, ev, c3, c4⟩ := h
  exact ⟨ev, c3, c4⟩
end Go.Proofs.YtnljpaohkkdjjaaGreatDoor
