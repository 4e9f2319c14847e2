/- The model's look at a root, whole: l02Root; its bytes: l02RootBytes; EncodeRoot. The program's first fault that sticks: need, within, inside, at a check that lies at the head of block b. The program's look at a root: isPointer, blocksOf, pointersFault, rootFault. Inodes by value: twenty-four integers; the comparison with the empty one. -/
import Derived.Test.YtohmjfagbhnieaaGreatDoorZl03
import Derived.Test.YtohmjfagbhnieaaGreatDoorZl01
import Derived.Test.YtohmjfagbhnieaaGreatDoorZl02
import Derived.ChangeKeysEq
namespace Go.Proofs.YtohmjfagbhnieaaGreatDoor
set_option linter.unusedVariables false
set_option linter.unusedSimpArgs false
open Go.RowKit

def lst (i : Nat) : Int := if i = 13 then 140 else i
def okAt (B : Int) (i : Nat) (x : Int) : Bool := ptrB x 2048 && (decide (x = 0) || decide (lst i < B))
def allR (s : Int) (pts : List Int) (n : Nat) : Bool := (List.range n).all fun i => okAt ((s + 511) / 512) i (pts.getD i 0)
def rightR (s : Int) (ds : List Int) (p q : Int) : Bool := (decide (0 ≤ s) && decide (s ≤ 262144)) && allR s (ds ++ [p, q]) 14
theorem allR_succ (s : Int) (pts : List Int) (n : Nat) : allR s pts (n + 1) = (allR s pts n && okAt ((s + 511) / 512) n (pts.getD n 0)) := by simp [allR, List.range_succ]
theorem allR_bad (s : Int) (pts : List Int) (n k : Nat) (hk : k < n) (h : okAt ((s + 511) / 512) k (pts.getD k 0) = false) : allR s pts n = false := by
  unfold allR
  rw [List.all_eq_false]
  exact ⟨k, by simpa using hk, by rw [h]; simp⟩

theorem okT (s : Int) (k : Nat) (z L : Int) (hp : ptrB z 2048 = true) (hL : lst k = L) (h : (z != 0) = false ∨ L < (s + 512 - 1) / 512) : okAt ((s + 511) / 512) k z = true := by
  unfold okAt
  rw [hp, hL]
  have e : s + 512 - 1 = s + 511 := by omega
  rw [e] at h
  rcases h with h | h
  · simp at h; simp [h]
  · simp [h]
theorem okT0 (s : Int) (k : Nat) (z : Int) (hp : ptrB z 2048 = true) (h : z = 0) : okAt ((s + 511) / 512) k z = true := by
  unfold okAt
  rw [hp]
  simp [h]
theorem okF (s : Int) (k : Nat) (z L : Int) (hL : lst k = L) (h : (z != 0) = true ∧ (s + 512 - 1) / 512 ≤ L) : okAt ((s + 511) / 512) k z = false := by
  unfold okAt
  have e : s + 512 - 1 = s + 511 := by omega
  rw [e] at h
  rw [hL]
  have h1 : ¬ z = 0 := by simpa using h.1
  have h2 : ¬ L < (s + 511) / 512 := by omega
  simp [h1, h2]
theorem lst_cases (k : Nat) : (((k : Int) == 12) = true ∧ ((k : Int) == 13) = false ∧ lst k = 12) ∨ (((k : Int) == 12) = false ∧ ((k : Int) == 13) = true ∧ lst k = 140) ∨ (((k : Int) == 12) = false ∧ ((k : Int) == 13) = false ∧ lst k = (k : Int)) := by
  by_cases h12 : k = 12
  · subst h12; exact .inl ⟨rfl, rfl, rfl⟩
  · by_cases h13 : k = 13
    · subst h13; exact .inr (.inl ⟨rfl, rfl, rfl⟩)
    · refine .inr (.inr ⟨by simp; omega, by simp; omega, ?_⟩)
      unfold lst
      rw [if_neg h13]

end Go.Proofs.YtohmjfagbhnieaaGreatDoor

namespace Go.Proofs.YtohmjfagbhnieaaGreatDoor
open Go.RowKit

/-- A check at the head of block b: its code, and no fault yet (ok), or a chain of faults with that code, from block lo on. -/
def Ck (w : World) (b lo : Nat) (code : Int) (ok : Bool) : Prop :=
  w.cell? ⟨b, 0, none⟩ = some (.int .i64 code) ∧ w.frozen? ⟨b, 1, none⟩ = false ∧ ∃ ev, w.cell? ⟨b, 1, none⟩ = some ev ∧ ((ok = true ∧ ev = .nilIface) ∨ (ok = false ∧ ∃ n, Flt w lo n ev code))
/-- Of what was there only the second cell of block b may have turned. -/
def Tch (b : Nat) (w w' : World) : Prop :=
  w.grownBy w' (some b) ∧ (∀ o, o ≠ 1 → w'.cell? ⟨b, o, none⟩ = w.cell? ⟨b, o, none⟩) ∧ ∀ o, w'.frozen? ⟨b, o, none⟩ = w.frozen? ⟨b, o, none⟩
theorem Tch.refl (b : Nat) (w : World) : Tch b w w := ⟨World.grownBy.refl _ _, fun _ _ => rfl, fun _ => rfl⟩
theorem Tch.trans {b : Nat} {w w1 w2 : World} (h1 : Tch b w w1) (h2 : Tch b w1 w2) : Tch b w w2 :=
  ⟨grownBy_trans h1.1 h2.1, fun o ho => (h2.2.1 o ho).trans (h1.2.1 o ho), fun o => (h2.2.2 o).trans (h1.2.2 o)⟩
theorem Tch.of_below {b : Nat} {w w' : World} (hlt : b < w.heap.size) (h : Below w.heap.size w w') : Tch b w w' :=
  ⟨⟨h.os, h.tape, h.output, h.size, fun k hk _ => h.block k hk⟩, fun o _ => h.cell (p := ⟨b, o, none⟩) hlt, fun o => h.frozen (p := ⟨b, o, none⟩) hlt⟩
theorem Tch.under {b B : Nat} {w0 w w' : World} (h : Tch b w w') (h0 : Below B w0 w) (hB : B ≤ b) (hs : B ≤ w.heap.size) : Below B w0 w' :=
  h0.grown h.1 hs (fun k e => by cases e; exact hB)
theorem Ck.lt {w : World} {b lo : Nat} {code : Int} {ok : Bool} (h : Ck w b lo code ok) : b < w.heap.size := cell_lt h.1
theorem Ck.below {w w' : World} {b lo : Nat} {code : Int} {ok : Bool} (h : Ck w b lo code ok) (hb : Below w.heap.size w w') : Ck w' b lo code ok := by
  obtain ⟨h1, h2, ev, h3, h4⟩ := h
  have hlt : b < w.heap.size := cell_lt h1
  refine ⟨(hb.cell (p := ⟨b, 0, none⟩) hlt).trans h1, (hb.frozen (p := ⟨b, 1, none⟩) hlt).trans h2, ev, (hb.cell (p := ⟨b, 1, none⟩) hlt).trans h3, ?_⟩
  rcases h4 with h4 | ⟨h4, n, h5⟩
  · exact .inl h4
  · exact .inr ⟨h4, n, h5.below hb⟩
/-- Kept behind what turns neither the check's block nor one from lo on. -/
theorem Ck.keep {w w' : World} {b lo : Nat} {code : Int} {ok : Bool} (h : Ck w b lo code ok) (hb : w'.heap[b]? = w.heap[b]?) (hk : ∀ k, k < w.heap.size → lo ≤ k → w'.heap[k]? = w.heap[k]?) : Ck w' b lo code ok := by
  obtain ⟨h1, h2, ev, h3, h4⟩ := h
  refine ⟨(World.cell?_of_block (a := ⟨b, 0, none⟩) hb).trans h1, (World.frozen?_of_block (a := ⟨b, 1, none⟩) hb).trans h2, ev, (World.cell?_of_block (a := ⟨b, 1, none⟩) hb).trans h3, ?_⟩
  rcases h4 with h4 | ⟨h4, n, h5⟩
  · exact .inl h4
  · exact .inr ⟨h4, n, h5.keep fun k o v hl hc => (World.cell?_of_block (a := ⟨k, o, none⟩) (hk k (cell_lt hc) hl)).trans hc⟩
/-- Kept behind writes to one row that is neither the check's nor one from lo on. -/
theorem Ck.grown {w w' : World} {b lo g : Nat} {code : Int} {ok : Bool} (h : Ck w b lo code ok) (hg : w.grownBy w' (some g)) (hne : b ≠ g) (hl : g < lo) : Ck w' b lo code ok :=
  h.keep (hg.block b h.lt (by simp; omega)) (fun k hk hlo => hg.block k hk (by simp; omega))
theorem Ck.relo {w : World} {b lo lo' : Nat} {code : Int} (h : Ck w b lo code true) : Ck w b lo' code true := by
  obtain ⟨h1, h2, ev, h3, h4⟩ := h
  rcases h4 with h4 | ⟨h4, _⟩
  · exact ⟨h1, h2, ev, h3, .inl h4⟩
  · cases h4
theorem Ck.fresh (w : World) (code : Int) (t : TypeId) : Ck (w.alloc (.cells #[.int .i64 code, .nilIface] t)) w.heap.size (w.heap.size + 1) code true :=
  ⟨by simp, by simp, .nilIface, by simp, .inl ⟨rfl, rfl⟩⟩

theorem inside_nil (b lo : Nat) (place : ByteArray) (code : Int) (ok : Bool) (w : World) (h : Ck w b lo code ok) :
    Calls Tryz.prog 52 #[.pointer (some ⟨b, 0, none⟩), .string place, .nilIface] w fun e w' => e = .returned (.tuple #[]) ∧ w' = w := by
  obtain ⟨h1, h2, ev, h3, h4⟩ := h
  rcases h4 with ⟨rfl, rfl⟩ | ⟨rfl, n, h5⟩
  · go_enter Tryz.func52, Tryz.ntmps52
    go_wp2
    go_end0
    exact ⟨rfl, rfl⟩
  · obtain ⟨t', x', rfl⟩ := h5.iface
    clear h5
    go_enter Tryz.func52, Tryz.ntmps52
    go_wp2
    go_end0
    exact ⟨rfl, rfl⟩

theorem inside_any (b lo : Nat) (place : ByteArray) (code : Int) (ok : Bool) (n : Nat) (v : Value) (w : World) (h : Ck w b lo code ok) (hv : Flt w lo n v code) (hlo : b < lo) (hsz : lo ≤ w.heap.size) :
    Calls Tryz.prog 52 #[.pointer (some ⟨b, 0, none⟩), .string place, v] w fun e w' => e = .returned (.tuple #[]) ∧ Ck w' b lo code false ∧ Tch b w w' := by
  have hlt := h.lt
  obtain ⟨h1, h2, ev, h3, h4⟩ := h
  rcases h4 with ⟨rfl, rfl⟩ | ⟨rfl, m, h5⟩
  · have HW : Hid (∀ w', w' = (w.setCell ⟨b, 1, none⟩ (.iface 133 (.pointer (some ⟨w.heap.size, 0, none⟩)))).alloc (.cells #[.string place, v] 135) → Ck w' b lo code false ∧ Tch b w w') := by
      rintro w' rfl
      have hnb : (⟨b, 1, none⟩ : Addr).block ≠ w.heap.size := by show b ≠ _; omega
      have hk : ∀ k o u, lo ≤ k → w.cell? ⟨k, o, none⟩ = some u → ((w.setCell ⟨b, 1, none⟩ (.iface 133 (.pointer (some ⟨w.heap.size, 0, none⟩)))).alloc (.cells #[.string place, v] 135)).cell? ⟨k, o, none⟩ = some u := by
        intro k o u hk hc
        have := cell_lt hc
        rw [World.cell?_alloc_lt _ _ ⟨k, o, none⟩ (by simpa using this), World.cell?_setCell_other _ _ _ _ (by intro e; injection e with e1; omega)]
        exact hc
      refine ⟨⟨?_, ?_, _, ?_, .inr ⟨rfl, n + 1, ⟨w.heap.size, v, rfl, hsz, ?_, hv.keep hk⟩⟩⟩, ⟨⟨rfl, rfl, rfl, by simp, fun k hk hn => ?_⟩, fun o ho => ?_, fun o => ?_⟩⟩
      · rw [World.cell?_alloc_lt _ _ ⟨b, 0, none⟩ (by simpa using hlt), World.cell?_setCell_other _ _ _ _ (by intro e; injection e with e1 e2; omega)]; exact h1
      · rw [World.frozen?_alloc_old _ _ ⟨b, 1, none⟩ (by simpa using hnb)]; simpa using h2
      · rw [World.cell?_alloc_lt _ _ ⟨b, 1, none⟩ (by simpa using hlt)]; exact World.cell?_setCell_same _ _ _ h3
      · rw [World.cell?_alloc_at _ _ _ _ (by simp)]; rfl
      · rw [Below.heap_alloc _ _ k (by simpa using hk)]
        exact Below.heap_setCell w _ _ k (fun h => hn (by rw [h]))
      · rw [World.cell?_alloc_lt _ _ ⟨b, o, none⟩ (by simpa using hlt), World.cell?_setCell_other _ _ _ _ (by intro e; injection e with e1 e2; omega)]
      · rw [World.frozen?_alloc_old _ _ ⟨b, o, none⟩ (by simpa using hnb)]; simp
    obtain ⟨t', x', rfl⟩ := hv.iface
    clear hv
    go_enter Tryz.func52, Tryz.ntmps52
    go_wp2
    go_end0
    exact ⟨rfl, HW.out _ rfl⟩
  · obtain ⟨t', x', rfl⟩ := h5.iface
    have HK : Hid (Ck w b lo code false) := ⟨h1, h2, _, h3, .inr ⟨rfl, m, h5⟩⟩
    obtain ⟨t2, x2, rfl⟩ := hv.iface
    clear h5 hv
    go_enter Tryz.func52, Tryz.ntmps52
    go_wp2
    go_end0
    exact ⟨rfl, HK.out, Tch.refl _ _⟩

theorem need_any (b lo : Nat) (place : ByteArray) (code : Int) (ok hd : Bool) (w : World) (h : Ck w b lo code ok) (hlo : b < lo) (hsz : lo ≤ w.heap.size) :
    Calls Tryz.prog 49 #[.pointer (some ⟨b, 0, none⟩), .string place, .bool hd] w fun e w' => e = .returned (.tuple #[]) ∧ Ck w' b lo code (ok && hd) ∧ Tch b w w' := by
  cases hd with
  | true =>
    have HK : Hid (Ck w b lo code (ok && true)) := by show Ck w b lo code (ok && true); simpa using h
    clear h
    go_enter Tryz.func49, Tryz.ntmps49
    go_wp2
    go_end0
    exact ⟨rfl, HK.out, Tch.refl _ _⟩
  | false =>
    have hlt := h.lt
    have hb0 : Below w.heap.size w (w.alloc (.cells #[.int .i64 code] 119)) := (Below.refl _ _).alloc (Nat.le_refl _) _
    have HK : Hid (Ck (w.alloc (.cells #[.int .i64 code] 119)) b lo code ok ∧ Flt (w.alloc (.cells #[.int .i64 code] 119)) lo 0 (.iface 115 (.pointer (some ⟨w.heap.size, 0, none⟩))) code) :=
      ⟨h.below hb0, w.heap.size, rfl, hsz, by simp⟩
    have h1 := h.1
    clear h
    go_enter Tryz.func49, Tryz.ntmps49
    go_wp2_with (go_at_call 52; refine (inside_any b lo place code ok 0 _ _ HK.out.1 HK.out.2 hlo (by simp; omega)).mono ?_; rintro e w' ⟨rfl, r1, r2⟩)
    go_end0
    refine ⟨rfl, by simpa using r1, (Tch.of_below hlt hb0).trans r2⟩

theorem within_any (b bl : Nat) (place : ByteArray) (code n lo hi : Int) (ok : Bool) (w : World) (h : Ck w b bl code ok) (hlo : b < bl) (hsz : bl ≤ w.heap.size) :
    Calls Tryz.prog 57 #[.pointer (some ⟨b, 0, none⟩), .string place, .int .i64 n, .int .i64 lo, .int .i64 hi] w fun e w' => e = .returned (.tuple #[]) ∧ Ck w' b bl code (ok && (decide (lo ≤ n) && decide (n ≤ hi))) ∧ Tch b w w' := by
  have HK : Hid (Ck w b bl code ok) := h
  clear h
  by_cases h1 : lo ≤ n <;> by_cases h2 : n ≤ hi
  all_goals
    go_enter Tryz.func57, Tryz.ntmps57
    go_wp2_with (go_at_call 49; refine (need_any b bl place code ok _ _ HK.out hlo hsz).mono ?_; rintro e w' ⟨rfl, r1, r2⟩)
    go_end0
    refine ⟨rfl, ?_, r2⟩
    first
    | (rw [show (decide (lo ≤ n) && decide (n ≤ hi)) = true by rw [Bool.and_eq_true]; simp; omega]; exact r1)
    | (rw [show (decide (lo ≤ n) && decide (n ≤ hi)) = false by rw [Bool.and_eq_false_iff]; simp; omega]; exact r1)

/-- What a look answers: nothing wrong, or a chain of faults. -/
def FaultIs (w : World) (lo : Nat) (ok : Bool) (ev : Value) (code : Int) : Prop := (ok = true ∧ ev = .nilIface) ∨ (ok = false ∧ ∃ m, Flt w lo m ev code)
theorem FaultIs.mono {w : World} {lo lo' : Nat} {ok : Bool} {ev : Value} {code : Int} (h : FaultIs w lo ok ev code) (hl : lo' ≤ lo) : FaultIs w lo' ok ev code := by
  rcases h with h | ⟨h, m, h2⟩
  · exact .inl h
  · exact .inr ⟨h, m, h2.mono hl⟩
theorem inside_both (b lo : Nat) (place : ByteArray) (code : Int) (ok ok1 : Bool) (ev : Value) (w : World) (h : Ck w b lo code ok) (hf : FaultIs w lo ok1 ev code) (hlo : b < lo) (hsz : lo ≤ w.heap.size) :
    Calls Tryz.prog 52 #[.pointer (some ⟨b, 0, none⟩), .string place, ev] w fun e w' => e = .returned (.tuple #[]) ∧ Ck w' b lo code (ok && ok1) ∧ Tch b w w' := by
  rcases hf with ⟨rfl, rfl⟩ | ⟨rfl, m, hm⟩
  · refine (inside_nil b lo place code ok w h).mono ?_
    rintro e w' ⟨rfl, rfl⟩
    exact ⟨rfl, by rw [Bool.and_true]; exact h, Tch.refl _ _⟩
  · refine (inside_any b lo place code ok m ev w h hm hlo hsz).mono ?_
    rintro e w' ⟨rfl, h1, h2⟩
    exact ⟨rfl, by rw [Bool.and_false]; exact h1, h2⟩

theorem FaultIs.below {w w' : World} {lo : Nat} {ok : Bool} {ev : Value} {code : Int} (h : FaultIs w lo ok ev code) (hb : Below w.heap.size w w') : FaultIs w' lo ok ev code := by
  rcases h with h | ⟨h, m, h2⟩
  · exact .inl h
  · exact .inr ⟨h, m, h2.below hb⟩
theorem Ck.fault {w : World} {b lo : Nat} {code : Int} {ok : Bool} (h : Ck w b lo code ok) : ∃ ev, w.cell? ⟨b, 1, none⟩ = some ev ∧ FaultIs w lo ok ev code := by
  obtain ⟨_, _, ev, c3, c4⟩ := h
  exact ⟨ev, c3, c4⟩
end Go.Proofs.YtohmjfagbhnieaaGreatDoor

namespace Go.Proofs.YtohmjfagbhnieaaGreatDoor
set_option linter.unusedVariables false
set_option linter.unusedSimpArgs false
open Go.RowKit

theorem all_take' (f : Int → Bool) (ds : List Int) (k : Nat) (h : k < ds.length) : (ds.take (k + 1)).all f = ((ds.take k).all f && f (ds.getD k 0)) := by
  rw [List.take_succ_eq_append_getElem h, List.all_append]
  simp [List.getD, h]
/-- What the loops keep: the boxed root, the check, and all that is older. -/
structure Kp (w wr : World) (C : Array Value) (t : TypeId) (code : Int) (ok : Bool) : Prop where
  blk : Blk wr w.heap.size C t
  ck : Ck wr (w.heap.size + 1) (w.heap.size + 1 + 1) code ok
  old : Below w.heap.size w wr
theorem Kp.lo {w wr : World} {C : Array Value} {t : TypeId} {code : Int} {ok : Bool} (h : Kp w wr C t code ok) : w.heap.size + 1 + 1 ≤ wr.heap.size := h.ck.lt
theorem Kp.tch {w wr w' : World} {C : Array Value} {t : TypeId} {code : Int} {ok ok' : Bool} (h : Kp w wr C t code ok) (hc : Ck w' (w.heap.size + 1) (w.heap.size + 1 + 1) code ok') (ht : Tch (w.heap.size + 1) wr w') : Kp w w' C t code ok' :=
  ⟨(ht.1.block _ h.blk.lt (by simp)).trans h.blk, hc, ht.under h.old (by omega) (Nat.le_of_lt h.blk.lt)⟩
theorem Kp.fault {w wr : World} {C : Array Value} {t : TypeId} {code : Int} {ok : Bool} (h : Kp w wr C t code ok) : ∃ ev, wr.cell? ⟨w.heap.size + 1, 1, none⟩ = some ev ∧ FaultIs wr w.heap.size ok ev code := by
  obtain ⟨_, _, ev, c3, c4⟩ := h.ck
  refine ⟨ev, c3, ?_⟩
  rcases c4 with c4 | ⟨c4, n, c5⟩
  · exact .inl c4
  · exact .inr ⟨c4, n, c5.mono (by omega)⟩

def ptrsB (ds : List Int) (p q n : Int) : Bool := (ds.all fun x => ptrB x n) && ptrB p n && ptrB q n

/-- The program's own way of saying rightR. -/
def rightI (s : Int) (ds : List Int) (p q y : Int) : Bool :=
  (((((decide (0 ≤ s) && decide (s ≤ 262144)) && ptrsB ds p q 2048) && ((List.range 12).all fun i => decide (ds.getD i 0 = 0) || decide ((i : Int) < y))) && (decide (p = 0) || decide (12 < y))) && (decide (q = 0) || decide (140 < y)))
theorem right_eq (s : Int) (ds : List Int) (p q y : Int) (hd : ds.length = 12) (hy : 0 ≤ s → s ≤ 262144 → y = (s + 511) / 512) : rightI s ds p q y = rightR s ds p q := by
  unfold rightI rightR
  by_cases h1 : 0 ≤ s
  · by_cases h2 : s ≤ 262144
    · rw [hy h1 h2]
      match ds, hd with
      | [d0, d1, d2, d3, d4, d5, d6, d7, d8, d9, d10, d11], _ =>
        simp [ptrsB, allR, okAt, lst, h1, h2, List.range, List.range.loop, List.getD]
        ac_rfl
    · simp [h2]
  · simp [h1]
end Go.Proofs.YtohmjfagbhnieaaGreatDoor

namespace Go.Proofs.YtohmjfagbhnieaaGreatDoor
set_option linter.unusedVariables false
set_option linter.unusedSimpArgs false
open Go.RowKit

section
variable {P : Program}
theorem part_one (w : World) {e : TypeId} {k : IntKind} (he : P.underlying e = some (.int k)) {xs : Array Value} {off : Nat} {v : Value} (hx : xs[off]? = some v) : (part e xs off).run P w = .ok v w := by
  simp [part, isAgg, run_underlying he, hx]
theorem part_many (w : World) {t : TypeId} {d : TypeDesc} {i : TypeInfo} (hu : P.underlying t = some d) (hd : (match d with | .struct _ | .array _ _ => true | _ => false) = true) (hi : P.info? t = some i) (xs : Array Value) (off : Nat) :
    (part t xs off).run P w = .ok (.agg (xs.extract off (off + P.cellsOf t))) w := by
  cases d <;> simp at hd <;> simp [part, isAgg, run_underlying hu, run_sizeOf w hi]
theorem eqFields_cons (w : World) {d : Nat} {xs ys : Array Value} {f : Field} {fs : List Field} {a b : Value} {r r' : Bool} (hn : f.name ≠ "_") (h1 : (part f.type xs f.offset).run P w = .ok a w) (h2 : (part f.type ys f.offset).run P w = .ok b w)
    (h3 : (Op.equalIn d f.type a b).run P w = .ok r w) (h4 : (Op.eqFields d xs ys fs).run P w = .ok r' w) : (Op.eqFields d xs ys (f :: fs)).run P w = .ok (r && r') w := by
  simp only [Op.eqFields, hn, ne_eq, not_false_eq_true, if_true, Sem.run_bind, h1, h2, h3, Result.andThen_ok]
  cases r
  · simp
  · simpa using h4
theorem eqItems_cons (w : World) {d : Nat} {e : TypeId} {c : Nat} {xs ys : Array Value} {i : Nat} {is : List Nat} {a b : Value} {r r' : Bool} (h1 : (part e xs (i * c)).run P w = .ok a w) (h2 : (part e ys (i * c)).run P w = .ok b w)
    (h3 : (Op.equalIn d e a b).run P w = .ok r w) (h4 : (Op.eqItems d e c xs ys is).run P w = .ok r' w) : (Op.eqItems d e c xs ys (i :: is)).run P w = .ok (r && r') w := by
  simp only [Op.eqItems, Sem.run_bind, h1, h2, h3, Result.andThen_ok]
  cases r
  · simp
  · simpa using h4
/-- Two rows of integers, item by item. -/
theorem eqItems_ints (w : World) (d : Nat) {e : TypeId} (he : P.underlying e = some (.int .i64)) (xs ys : List Int) : ∀ (is : List Nat), (∀ i ∈ is, i < xs.length ∧ i < ys.length) →
    (Op.eqItems (d + 1) e 1 (cellsI xs) (cellsI ys) is).run P w = .ok (is.all fun i => xs.getD i 0 == ys.getD i 0) w
  | [], _ => by simp [Op.eqItems]
  | i :: is, h => by
    have hi := h i (by simp)
    exact eqItems_cons w (part_one w he (by rw [Nat.mul_one]; exact cellsI_get xs i hi.1)) (part_one w he (by rw [Nat.mul_one]; exact cellsI_get ys i hi.2)) (run_equalIn_int w d e .i64 .i64 _ _ he) (eqItems_ints w d he xs ys is (fun j hj => h j (by simp [hj])))

theorem wpList_eql {ops : Array Oper} {rest : List Oper} {o : Oper} {a : Act} {w : World} {Q : Exit → Act → World → Prop} (hgd : o.guard = none) (t u : TypeId) (x y : Operand) (ho : o.op = .binOp .eql t x y u)
    (cs ds : Array Value) (hx : a.eval x = .agg cs) (hy : a.eval y = .agg ds) (hm : P.eqGuardType P.depth t = false) (b : Bool) (hE : (Op.equalIn 10000 t (.agg cs) (.agg ds)).run P w = .ok b w)
    (h : wpList P ops Q rest (a.put o.dst (.bool b)) w) : wpList P ops Q (o :: rest) a w := by
  refine wpList_plain hgd fun K hK => ?_
  have hrun : (execOp a.eval o).run P w = .ok (.value (.bool b)) w := by
    simp [execOp, ho, hx, hy, run_eqGuard_agg w _ _ _ _ _ _ hm, run_eql_struct, hE, Result.andThen]
  unfold Oper.wp
  rw [hrun, Oper.upon_value]
  exact hK _ _ h
end

/-- The integers of an inode: the nine of its own, then its root's. -/
def inoI (ks : List Int) (s : Int) (ds : List Int) (p q : Int) : List Int := ks ++ rootI s ds p q
theorem inoI_len (ks : List Int) (s : Int) (ds : List Int) (p q : Int) (hk : ks.length = 9) (hd : ds.length = 12) : (inoI ks s ds p q).length = 24 := by
  unfold inoI
  rw [List.length_append, rootI_len s ds p q hd, hk]
theorem cellsT_int : Tryz.prog.cellsOf 3 = 1 := by kernel_rfl
def zeroB (l : List Int) : Bool := l.all fun x => x == 0
theorem zeroB_iff (l : List Int) : zeroB l = true ↔ ∀ x ∈ l, x = 0 := by simp [zeroB]

theorem ino_range (k0 k1 k2 k3 k4 k5 k6 k7 k8 s : Int) (ds : List Int) (p q : Int) (hd : ds.length = 12) {w : World} {b : Nat} {t : TypeId} (h : Blk w b (cellsI (inoI [k0, k1, k2, k3, k4, k5, k6, k7, k8] s ds p q)) t) : w.rangeAt b 9 ((rootI s ds p q).map (Value.int .i64)) := by
  have hr := h.range 9 15 (by rw [inoI_len _ _ _ _ _ rfl hd]; omega)
  have e : ((inoI [k0, k1, k2, k3, k4, k5, k6, k7, k8] s ds p q).drop 9).take 15 = rootI s ds p q := by
    have hl := rootI_len s ds p q hd
    simp only [inoI, List.drop_append, List.length_cons, List.length_nil, List.drop_succ_cons, List.drop_nil, List.nil_append, Nat.sub_self, List.drop_zero]
    exact List.take_of_length_le (by omega)
  rw [e] at hr
  exact hr

theorem ino_of_list (rs : List Int) (h : rs.length = 24) : ∃ k0 k1 k2 k3 k4 k5 k6 k7 k8 s ds p q, ds.length = 12 ∧ rs = inoI [k0, k1, k2, k3, k4, k5, k6, k7, k8] s ds p q := by
  match rs, h with
  | [k0, k1, k2, k3, k4, k5, k6, k7, k8, s, d0, d1, d2, d3, d4, d5, d6, d7, d8, d9, d10, d11, p, q], _ => exact ⟨k0, k1, k2, k3, k4, k5, k6, k7, k8, s, [d0, d1, d2, d3, d4, d5, d6, d7, d8, d9, d10, d11], p, q, rfl, rfl⟩

end Go.Proofs.YtohmjfagbhnieaaGreatDoor
