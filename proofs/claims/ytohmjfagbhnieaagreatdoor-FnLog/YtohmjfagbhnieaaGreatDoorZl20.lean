/- The program reads a root: readRoot. The program's look at a root, whole: rootFault. -/
import Derived.Test.YtohmjfagbhnieaaGreatDoorZl19
import Derived.Test.YtohmjfagbhnieaaGreatDoorZl02
import Derived.Test.YtohmjfagbhnieaaGreatDoorZl04
namespace Go.Proofs.YtohmjfagbhnieaaGreatDoor
set_option linter.unusedVariables false
set_option linter.unusedSimpArgs false
open Go.RowKit

theorem Flt.store {w : World} {lo g o : Nat} {y : Int} {x : Value} (ho : o ≠ 0) (hy : w.cell? ⟨g, o, none⟩ = some (.int .i64 y)) : ∀ {n : Nat} {v : Value} {c : Int}, Flt w lo n v c → Flt (w.setCell ⟨g, o, none⟩ x) lo n v c
  | 0, _, _, ⟨b, h, hl, hc⟩ => ⟨b, h, hl, (World.cell?_setCell_other _ _ _ _ (by intro e; injection e with e1 e2; exact ho e2)).trans hc⟩
  | _ + 1, _, _, ⟨b, v', h, hl, hc, hr⟩ => by
    refine ⟨b, v', h, hl, (World.cell?_setCell_other _ _ _ _ ?_).trans hc, Flt.store ho hy hr⟩
    intro e
    rw [e, hc] at hy
    obtain ⟨t, z, rfl⟩ := hr.iface
    cases hy
theorem Rdr.store {w0 w : World} {b lo : Nat} {ok : Bool} {dv : Value} {zs : List Int} {pos g o : Nat} {y : Int} (x : Value) (h : Rdr w0 w b lo ok dv zs pos) (hg : b < g) (ho : o ≠ 0) (hy : w.cell? ⟨g, o, none⟩ = some (.int .i64 y)) : Rdr w0 (w.setCell ⟨g, o, none⟩ x) b lo ok dv zs pos := by
  have hne : ∀ o', (⟨g, o, none⟩ : Addr) ≠ ⟨b, o', none⟩ := fun o' e => by injection e with e1 e2; omega
  have hc : ∀ o', (w.setCell ⟨g, o, none⟩ x).cell? ⟨b, o', none⟩ = w.cell? ⟨b, o', none⟩ := fun o' => World.cell?_setCell_other _ _ _ _ (hne o')
  obtain ⟨c1, c2, ev, c3, c4⟩ := h.ck
  refine ⟨⟨(hc 0).trans c1, by simpa using c2, ev, (hc 1).trans c3, ?_⟩, (hc 2).trans h.data, (hc 3).trans h.at_, by simpa using h.fr, h.old.setCell (p := ⟨g, o, none⟩) (Nat.le_of_lt hg) _, h.size, h.rd, h.le, h.lo1, by simpa using h.lo2⟩
  rcases c4 with c4 | ⟨c4, n, c5⟩
  · exact .inl c4
  · exact .inr ⟨c4, n, c5.store ho hy⟩
theorem Rdr.below {w0 w w' : World} {b lo : Nat} {ok : Bool} {dv : Value} {zs : List Int} {pos : Nat} (h : Rdr w0 w b lo ok dv zs pos) (hb : Below w.heap.size w w') : Rdr w0 w' b lo ok dv zs pos :=
  ⟨h.ck.below hb, (hb.cell (p := ⟨b, 2, none⟩) h.ck.lt).trans h.data, (hb.cell (p := ⟨b, 3, none⟩) h.ck.lt).trans h.at_, (hb.frozen (p := ⟨b, 3, none⟩) h.ck.lt).trans h.fr, h.old.trans (hb.mono (Nat.le_of_lt h.ck.lt)), h.size, h.rd, h.le, h.lo1, Nat.le_trans h.lo2 hb.size⟩
theorem Rdr.alloc {w0 w : World} {b lo : Nat} {ok : Bool} {dv : Value} {zs : List Int} {pos : Nat} (h : Rdr w0 w b lo ok dv zs pos) (o : Obj) : Rdr w0 (w.alloc o) b lo ok dv zs pos := h.below ((Below.refl _ _).alloc (Nat.le_refl _) _)
theorem grow_set {w w1 : World} {r : Option Nat} (h : w.grownBy w1 r) (g o : Nat) (v : Value) (hg : w.heap.size ≤ g) : w.grownBy (w1.setCell ⟨g, o, none⟩ v) r :=
  ⟨h.os, h.tape, h.output, by simpa using h.size, fun k hk hne => (Below.heap_setCell w1 ⟨g, o, none⟩ _ k (by show k ≠ g; omega)).trans (h.block k hk hne)⟩
theorem grow_row {w w1 : World} {r : Option Nat} (h : w.grownBy w1 r) (g : Nat) (cs : Array Value) (hg : w.heap.size ≤ g) : w.grownBy (w1.setRow g cs) r :=
  ⟨h.os, h.tape, h.output, by simpa [World.setRow] using h.size, fun k hk hne => by
    rw [← h.block k hk hne]
    simp [World.setRow, Array.getElem?_modify, show ¬ g = k by omega]⟩

theorem cellsI_int {xs : List Int} {k : Nat} {v : Value} (h : (cellsI xs)[k]? = some v) : ∃ z, xs[k]? = some z ∧ v = .int .i64 z := by
  have h' : (xs.map (Value.int .i64))[k]? = some v := by simpa [cellsI] using h
  rw [List.getElem?_map] at h'
  cases e : xs[k]? with
  | none => rw [e] at h'; cases h'
  | some z => rw [e] at h'; exact ⟨z, rfl, by simpa using h'.symm⟩
theorem Flt.row {w : World} {lo g : Nat} {xs : List Int} {t : TypeId} {cs : Array Value} {c : Int} (hB : Blk w g (cellsI xs) t) (hx : xs[0]? ≠ some c) : ∀ {n : Nat} {v : Value}, Flt w lo n v c → Flt (w.setRow g cs) lo n v c
  | 0, _, ⟨b, h, hl, hc⟩ => by
    refine ⟨b, h, hl, (World.cell?_of_block (a := ⟨b, 0, none⟩) (setRow_block w g cs b ?_)).trans hc⟩
    rintro rfl
    rw [hB.cell 0] at hc
    obtain ⟨z, h1, h2⟩ := cellsI_int hc
    injection h2 with _ h3
    rw [h3] at hx
    exact hx h1
  | _ + 1, _, ⟨b, v', h, hl, hc, hr⟩ => by
    refine ⟨b, v', h, hl, (World.cell?_of_block (a := ⟨b, 1, none⟩) (setRow_block w g cs b ?_)).trans hc, Flt.row hB hx hr⟩
    rintro rfl
    rw [hB.cell 1] at hc
    obtain ⟨z, _, rfl⟩ := cellsI_int hc
    obtain ⟨_, _, h3⟩ := hr.iface
    cases h3
theorem Rdr.row {w0 w : World} {b lo : Nat} {ok : Bool} {dv : Value} {zs : List Int} {pos g : Nat} {xs : List Int} {t : TypeId} (cs : Array Value) (h : Rdr w0 w b lo ok dv zs pos) (hg : b < g) (hB : Blk w g (cellsI xs) t) (hx : xs[0]? ≠ some 21) : Rdr w0 (w.setRow g cs) b lo ok dv zs pos := by
  have hb : (w.setRow g cs).heap[b]? = w.heap[b]? := setRow_block w g cs b (by omega)
  have hc : ∀ o', (w.setRow g cs).cell? ⟨b, o', none⟩ = w.cell? ⟨b, o', none⟩ := fun o' => World.cell?_of_block (a := ⟨b, o', none⟩) hb
  have hf : ∀ o', (w.setRow g cs).frozen? ⟨b, o', none⟩ = w.frozen? ⟨b, o', none⟩ := fun o' => World.frozen?_of_block (a := ⟨b, o', none⟩) hb
  obtain ⟨c1, c2, ev, c3, c4⟩ := h.ck
  refine ⟨⟨(hc 0).trans c1, (hf 1).trans c2, ev, (hc 1).trans c3, ?_⟩, (hc 2).trans h.data, (hc 3).trans h.at_, (hf 3).trans h.fr, below_setRow h.old (Nat.le_of_lt hg) _, h.size, h.rd, h.le, h.lo1, by simpa [World.setRow] using h.lo2⟩
  rcases c4 with c4 | ⟨c4, n, c5⟩
  · exact .inl c4
  · exact .inr ⟨c4, n, c5.row hB hx⟩

/-- How far a reader came that was ok at pos and had m bytes to read. -/
def Adv (ok : Bool) (zs : List Int) (pos m : Nat) (okr : Bool) (pr : Nat) : Prop :=
  (okr = true ∧ ok = true ∧ pos + m ≤ zs.length ∧ pr = pos + m) ∨ (okr = false ∧ ¬ (ok = true ∧ pos + m ≤ zs.length) ∧ pr ≤ pos + m)
theorem Adv.start (ok : Bool) (zs : List Int) (pos : Nat) (h : pos ≤ zs.length) : Adv ok zs pos 0 ok pos := by
  cases ok with
  | true => exact .inl ⟨rfl, rfl, h, rfl⟩
  | false => exact .inr ⟨rfl, (fun h => absurd h.1 (by decide)), by omega⟩
theorem Adv.step {ok okr : Bool} {zs : List Int} {pos m pr : Nat} {w0 w w' : World} {b lo : Nat} {dv : Value} {m' x : Nat} (h : Adv ok zs pos m okr pr) (hn : Numd w0 w w' b lo okr dv zs pr m' x) :
    ∃ ok2 p2, Rdr w0 w' b lo ok2 dv zs p2 ∧ Adv ok zs pos (m + m') ok2 p2 ∧ (ok2 = true → okr = true ∧ x = unle ((zs.drop (pos + m)).take m')) ∧ w.grownBy w' (some b) := by
  obtain ⟨hg, hn⟩ := hn
  rcases hn with ⟨ho, hle, hx, hr⟩ | ⟨hno, hx, hr⟩
  · rcases h with ⟨_, h2, h3, h4⟩ | ⟨h1, _, _⟩
    · subst h4
      exact ⟨true, _, hr, .inl ⟨rfl, h2, by omega, by omega⟩, fun _ => ⟨ho, hx⟩, hg⟩
    · rw [h1] at ho; cases ho
  · refine ⟨false, _, hr, .inr ⟨rfl, fun hh => ?_, ?_⟩, (fun h => absurd h (by decide)), hg⟩
    · rcases h with ⟨h1, h2, h3, h4⟩ | ⟨h1, h2, _⟩
      · exact hno ⟨h1, by omega⟩
      · exact h2 ⟨hh.1, by omega⟩
    · rcases h with ⟨h1, h2, h3, h4⟩ | ⟨h1, h2, h3⟩ <;> omega

/-- The words of four bytes from p on. -/
def wordsFrom (zs : List Int) (p n : Nat) : List Int := (List.range n).map fun i => ((unle ((zs.drop (p + 4 * i)).take 4) : Nat) : Int)
theorem wordsFrom_succ (zs : List Int) (p n : Nat) : wordsFrom zs p (n + 1) = wordsFrom zs p n ++ [((unle ((zs.drop (p + 4 * n)).take 4) : Nat) : Int)] := by simp [wordsFrom, List.range_succ]
theorem wordsFrom_len (zs : List Int) (p n : Nat) : (wordsFrom zs p n).length = n := by simp [wordsFrom]
theorem set_next (s : Int) (ds : List Int) (k : Nat) (hk : k < 14) (hd : ds.length = k) (x : Int) : (cellsI (s :: (ds ++ List.replicate (14 - k) 0))).setIfInBounds (1 + k) (.int .i64 x) = cellsI (s :: ((ds ++ [x]) ++ List.replicate (14 - (k + 1)) 0)) := by
  rw [cellsI_set]
  congr 1
  subst hd
  rw [Nat.add_comm, List.set_cons_succ]
  congr 1
  rw [List.set_append_right _ _ (Nat.le_refl _), Nat.sub_self, show 14 - ds.length = 14 - (ds.length + 1) + 1 from by omega, List.replicate_succ, List.set_cons_zero]
  simp
theorem cell_next (s : Int) (ds : List Int) (k : Nat) (hk : k < 14) (hd : ds.length = k) : (cellsI (s :: (ds ++ List.replicate (14 - k) 0)))[1 + k]? = some (.int .i64 0) := by
  subst hd
  rw [cellsI_get _ _ (by simp; omega), Nat.add_comm, List.getD_cons_succ]
  rw [List.getD, List.getElem?_append_right (Nat.le_refl _), Nat.sub_self]
  rw [List.getElem?_replicate, if_pos (by omega)]
  rfl

/-- What was read as a root from pos on. -/
def RootAt (zs : List Int) (pos : Nat) (s : Int) (ds : List Int) (p q : Int) : Prop :=
  s = wrap64 ((unle ((zs.drop pos).take 8) : Nat) : Int) ∧ ds ++ [p, q] = wordsFrom zs (pos + 8) 14

end Go.Proofs.YtohmjfagbhnieaaGreatDoor

namespace Go.Proofs.YtohmjfagbhnieaaGreatDoor
set_option linter.unusedVariables false
set_option linter.unusedSimpArgs false
open Go.RowKit

theorem Kp.below {w wr w' : World} {C : Array Value} {t : TypeId} {code : Int} {ok : Bool} (h : Kp w wr C t code ok) (hb : Below wr.heap.size wr w') : Kp w w' C t code ok :=
  ⟨h.blk.below hb h.blk.lt, h.ck.below hb, h.old.trans (hb.mono h.old.size)⟩

theorem inside_fault (w wr w1 : World) (C : Array Value) (t : TypeId) (code : Int) (ok ok1 : Bool) (place : ByteArray) (ev : Value) (h : Kp w w1 C t code ok) (hlo : w.heap.size + 1 + 1 ≤ wr.heap.size) (hs : wr.heap.size ≤ w1.heap.size) (hf : FaultIs w1 wr.heap.size ok1 ev code) :
    Calls Tryz.prog 52 #[.pointer (some ⟨w.heap.size + 1, 0, none⟩), .string place, ev] w1 fun e w' => e = .returned (.tuple #[]) ∧ Kp w w' C t code (ok && ok1) := by
  rcases hf with ⟨rfl, rfl⟩ | ⟨rfl, m, hm⟩
  · refine (inside_nil (w.heap.size + 1) _ place code ok w1 h.ck).mono ?_
    rintro e w' ⟨rfl, rfl⟩
    exact ⟨rfl, by simpa using h⟩
  · refine (inside_any (w.heap.size + 1) (w.heap.size + 1 + 1) place code ok m ev w1 h.ck (hm.mono hlo) (by omega) h.lo).mono ?_
    rintro e w' ⟨rfl, hc, ht⟩
    exact ⟨rfl, by rw [Bool.and_false]; exact h.tch hc ht⟩

def dirsB (ds : List Int) (y : Int) (n : Nat) : Bool := (List.range n).all fun i => decide (ds.getD i 0 = 0) || decide ((i : Int) < y)
theorem dirsB_succ (ds : List Int) (y : Int) (n : Nat) : dirsB ds y (n + 1) = (dirsB ds y n && (decide (ds.getD n 0 = 0) || decide ((n : Int) < y))) := by simp [dirsB, List.range_succ]

end Go.Proofs.YtohmjfagbhnieaaGreatDoor
