/- The mark that a conversion puts behind a row: what it keeps. -/
import Derived.Test.YtkbbnflblkkepaaGreatDoorZm08
namespace Go.Proofs.YtkbbnflblkkepaaGreatDoor
set_option linter.unusedVariables false
set_option linter.unusedSimpArgs false
open Go.RowKit

/-- What a mark behind a row keeps: every cell; and the blocks, but for the marks of one. -/
theorem freeze_cell (w : World) (g k : Nat) (a : Addr) : (w.freeze ⟨g, k, none⟩ 1).cell? a = w.cell? a := by
  unfold World.freeze World.cell?
  rw [if_neg (by decide)]
  simp only [Array.getElem?_modify]
  by_cases h : g = a.block
  · rw [if_pos h]
    cases e : w.heap[a.block]? with
    | none => rfl
    | some o => cases o <;> rfl
  · rw [if_neg h]
theorem freeze_size (w : World) (g k : Nat) : (w.freeze ⟨g, k, none⟩ 1).heap.size = w.heap.size := by
  unfold World.freeze
  rw [if_neg (by decide)]
  simp
theorem freeze_row (w : World) (g k : Nat) {b : Nat} {C : Array Value} {t : TypeId} (h : ∃ fr, w.heap[b]? = some (.cells C t fr)) : ∃ fr, (w.freeze ⟨g, k, none⟩ 1).heap[b]? = some (.cells C t fr) := by
  obtain ⟨fr, h⟩ := h
  unfold World.freeze
  rw [if_neg (by decide)]
  simp only [Array.getElem?_modify]
  by_cases e : g = b
  · rw [if_pos e, h]; exact ⟨_, rfl⟩
  · rw [if_neg e]; exact ⟨fr, h⟩
theorem freeze_below {B : Nat} {w0 w : World} (h : Below B w0 w) (g k : Nat) (hg : B ≤ g) : Below B w0 (w.freeze ⟨g, k, none⟩ 1) := by
  refine h.trans ⟨?_, ?_, ?_, by rw [freeze_size]; exact Nat.le_refl _, fun j hj => ?_⟩
  · unfold World.freeze; rw [if_neg (by decide)]
  · unfold World.freeze; rw [if_neg (by decide)]
  · unfold World.freeze; rw [if_neg (by decide)]
  · unfold World.freeze
    rw [if_neg (by decide)]
    simp only [Array.getElem?_modify]
    rw [if_neg (show ¬ g = j by omega)]
theorem Rd.freeze {k : IntKind} {w : World} {v : Value} {zs : List Int} (h : Rd k w v zs) (g m : Nat) : Rd k (w.freeze ⟨g, m, none⟩ 1) v zs := by
  obtain ⟨a, cap, rfl, hm, hc, hcap⟩ := h
  refine ⟨a, cap, rfl, hm, fun hne => ?_, hcap⟩
  obtain ⟨b, off, rfl, hlt, hcell⟩ := hc hne
  exact ⟨b, off, rfl, by rw [freeze_size]; exact hlt, fun i hi => by rw [freeze_cell]; exact hcell i hi⟩
theorem AllRd.freeze {w : World} (g m : Nat) : ∀ {vs : List Value} {bs : List (List Int)}, AllRd w vs bs → AllRd (w.freeze ⟨g, m, none⟩ 1) vs bs
  | [], [], _ => trivial
  | _ :: _, _ :: _, h => ⟨h.1.freeze g m, AllRd.freeze g m h.2⟩
  | [], _ :: _, h => h.elim
  | _ :: _, [], h => h.elim
theorem run_mark {P : Program} (w : World) (t e : TypeId) (g n c : Nat) {C : Array Value} (hg : ∃ fr, w.heap[g]? = some (.cells C e fr)) (ht : P.underlying t = some (.slice e)) (he : P.underlying e = some (.int .u8)) :
    (convert t t (.slice (some ⟨g, 0, none⟩) n c)).run P w = .ok (.slice (some ⟨g, 0, none⟩) n c) (w.freeze ⟨g, C.size, none⟩ 1) := by
  obtain ⟨fr, hg⟩ := hg
  have hsh : w.shape? g = some (e, C.size) := by unfold World.shape?; rw [hg]
  simp [convert, run_underlying ht, run_underlying he, markStringish, hsh]
theorem wp_mark {P : Program} {o : Oper} {a : Act} {w : World} {K : Act → World → Prop} {Q : Exit → Act → World → Prop} (t e : TypeId) (x : Operand) (ho : o.op = .convert t t x) (g n c : Nat) {C : Array Value} (hx : a.eval x = .slice (some ⟨g, 0, none⟩) n c) (hg : ∃ fr, w.heap[g]? = some (.cells C e fr)) (ht : P.underlying t = some (.slice e)) (he : P.underlying e = some (.int .u8))
    (h : K (a.put o.dst (.slice (some ⟨g, 0, none⟩) n c)) (w.freeze ⟨g, C.size, none⟩ 1)) : o.wp P a w K Q := by
  unfold Oper.wp execOp
  simp only [ho, hx, Sem.run_bind, Sem.run_pure, Result.andThen_ok, run_mark w t e g n c hg ht he]
  exact h
theorem wpList_mark {P : Program} {ops : Array Oper} {rest : List Oper} {o : Oper} {a : Act} {w : World} {Q : Exit → Act → World → Prop} (hgd : o.guard = none) (t e : TypeId) (x : Operand) (ho : o.op = .convert t t x) (g n c : Nat) {C : Array Value} (hx : a.eval x = .slice (some ⟨g, 0, none⟩) n c) (hg : ∃ fr, w.heap[g]? = some (.cells C e fr)) (ht : P.underlying t = some (.slice e)) (he : P.underlying e = some (.int .u8))
    (h : wpList P ops Q rest (a.put o.dst (.slice (some ⟨g, 0, none⟩) n c)) (w.freeze ⟨g, C.size, none⟩ 1)) : wpList P ops Q (o :: rest) a w := by
  refine wpList_plain hgd fun K hK => ?_
  exact wp_mark t e x ho g n c hx hg ht he (hK _ _ h)
end Go.Proofs.YtkbbnflblkkepaaGreatDoor
