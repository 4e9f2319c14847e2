/- The model joins byte strings and fills them up: l02Join, l02Fill. The device's sectors: a row of sectors as bytes (bytesOf). -/
import Derived.Test.YthghibopnnjboaaZd17
import Derived.Test.YthghibopnnjboaaZd02
import Derived.Deep.MidRow
import Derived.Laws.Tables
import Derived.Laws.CopyOwn
import Derived.Maps.AppendAt
import Derived.Deep.DeepCutAuto
namespace Go.Proofs.Ythghibopnnjboaa
set_option linter.unusedVariables false
set_option linter.unusedSimpArgs false
open Go.RowKit

/-- Slices that read as byte strings, one by one. -/
def AllRd (w : World) : List Value → List (List Int) → Prop
  | [], [] => True
  | v :: vs, b :: bs => Rd .u8 w v b ∧ AllRd w vs bs
  | _, _ => False
theorem AllRd.below {w w' : World} (hb : Below w.heap.size w w') : ∀ {vs : List Value} {bs : List (List Int)}, AllRd w vs bs → AllRd w' vs bs
  | [], [], _ => trivial
  | _ :: _, _ :: _, h => ⟨h.1.below hb, AllRd.below hb h.2⟩
  | [], _ :: _, h => h.elim
  | _ :: _, [], h => h.elim
theorem AllRd.snoc {w : World} {v : Value} {b : List Int} (hv : Rd .u8 w v b) : ∀ {vs : List Value} {bs : List (List Int)}, AllRd w vs bs → AllRd w (vs ++ [v]) (bs ++ [b])
  | [], [], _ => ⟨hv, trivial⟩
  | _ :: _, _ :: _, h => ⟨h.1, AllRd.snoc hv h.2⟩
  | [], _ :: _, h => h.elim
  | _ :: _, [], h => h.elim
theorem AllRd.next {w w' : World} {base : Nat} {e : TypeId} {n : Nat} {v : Value} {b : List Int} {vs : List Value} {bs : List (List Int)} (h : AllRd w vs bs) (ho : w'.ownsRow base e 1 v n (b.map (Value.int .u8))) (hb : Below w.heap.size w w') : AllRd w' (vs ++ [v]) (bs ++ [b]) :=
  (h.below hb).snoc (Rd.own ho)
theorem AllRd.len {w : World} : ∀ {vs : List Value} {bs : List (List Int)}, AllRd w vs bs → vs.length = bs.length
  | [], [], _ => rfl
  | _ :: _, _ :: _, h => by simp [AllRd.len h.2]
  | [], _ :: _, h => h.elim
  | _ :: _, [], h => h.elim
theorem AllRd.at {w : World} : ∀ {vs : List Value} {bs : List (List Int)} (k : Nat), AllRd w vs bs → k < bs.length → ∃ v, vs[k]? = some v ∧ Rd .u8 w v (bs.getD k [])
  | v :: vs, b :: bs, 0, h, _ => ⟨v, rfl, h.1⟩
  | v :: vs, b :: bs, k + 1, h, hk => by
    obtain ⟨u, h1, h2⟩ := AllRd.at k h.2 (by simpa using hk)
    exact ⟨u, by simpa using h1, by simpa using h2⟩
  | [], [], k, _, hk => by simp at hk
  | [], _ :: _, _, h, _ => h.elim
  | _ :: _, [], _, h, _ => h.elim
theorem flatten_take {α : Type} (bs : List (List α)) (k : Nat) (h : k < bs.length) : (bs.take (k + 1)).flatten = (bs.take k).flatten ++ bs.getD k [] := by
  rw [List.take_succ_eq_append_getElem h, List.flatten_append]
  simp [List.getD, h]
theorem take_flat_len {α : Type} (bs : List (List α)) (k : Nat) : (bs.take k).flatten.length ≤ bs.flatten.length := by
  conv => rhs; rw [← List.take_append_drop k bs, List.flatten_append, List.length_append]
  omega

end Go.Proofs.Ythghibopnnjboaa

namespace Go.Proofs.Ythghibopnnjboaa
set_option linter.unusedVariables false
set_option linter.unusedSimpArgs false
open Go.RowKit

/-- A slice of n sectors reads as the bytes zs. -/
def RdK (w : World) (v : Value) (n : Nat) (zs : List Int) : Prop :=
  ∃ (a : Option Addr) (cap : Nat), v = .slice a n cap ∧ zs.length = n * 128 ∧ n ≤ 100000 ∧ (0 < n → ∃ b off, a = some ⟨b, off, none⟩ ∧ b < w.heap.size ∧ ∀ i, i < n * 128 → w.cell? ⟨b, off + i, none⟩ = some (.int .u8 (zs.getD i 0)))
theorem RdK.below {w w' : World} {v : Value} {n : Nat} {zs : List Int} (h : RdK w v n zs) (hb : Below w.heap.size w w') : RdK w' v n zs := by
  obtain ⟨a, cap, h1, h2, h3, h4⟩ := h
  refine ⟨a, cap, h1, h2, h3, fun hn => ?_⟩
  obtain ⟨b, off, e, hl, hc⟩ := h4 hn
  exact ⟨b, off, e, Nat.lt_of_lt_of_le hl hb.size, fun i hi => (hb.cell (p := ⟨b, off + i, none⟩) hl).trans (hc i hi)⟩
theorem RdK.own {w : World} {base : Nat} {v : Value} {n : Nat} {zs : List Int} (h : w.ownsRow base 76 128 v n (zs.map (Value.int .u8))) (hn : n ≤ 100000) : RdK w v n zs := by
  have hl : zs.length = n * 128 := by have := h.1; simpa using this
  rcases h.2 with ⟨rfl, h0⟩ | ⟨g, cap, cur, rfl, hb, hg, h1, h2, h3, h4⟩
  · exact ⟨none, 0, by rw [h0], hl, hn, fun hp => by omega⟩
  · refine ⟨some ⟨g, 0, none⟩, cap, rfl, hl, hn, fun hp => ⟨g, 0, rfl, (h.lt g rfl).2, fun i hi => ?_⟩⟩
    rw [Nat.zero_add, h.cellAt i hi, List.getElem?_map, List.getElem?_eq_getElem (by omega)]
    simp [List.getD, show i < zs.length by omega]
theorem infoSec : (Try.prog.info? 76).map (·.size) = some 128 := by kernel_rfl
def zSec : Array Value := Array.replicate 128 (.int .u8 0)
theorem allocSec (w : World) : (Instr.alloc 76 true (.tuple #[])).run Try.prog w = .ok (.pointer (some ⟨w.heap.size, 0, none⟩)) (w.alloc (.cells zSec 76)) := by kernel_rfl
theorem part_range {w : World} {b off n : Nat} {zs : List Int} (hl : zs.length = n * 128) (hc : ∀ i, i < n * 128 → w.cell? ⟨b, off + i, none⟩ = some (.int .u8 (zs.getD i 0))) (k : Nat) (hk : k < n) : w.rangeAt b (off + k * 128) (((zs.drop (k * 128)).take 128).map (Value.int .u8)) := by
  intro j v hj
  have hkn : (k + 1) * 128 ≤ n * 128 := Nat.mul_le_mul_right _ hk
  rw [Nat.add_mul] at hkn
  have hlen : ((zs.drop (k * 128)).take 128).length = 128 := by rw [List.length_take, List.length_drop]; omega
  have hj2 : j < 128 := by
    rcases Nat.lt_or_ge j 128 with h | h
    · exact h
    · rw [List.getElem?_eq_none (by rw [List.length_map, hlen]; exact h)] at hj; cases hj
  rw [Nat.add_assoc, hc (k * 128 + j) (by omega)]
  rw [List.getElem?_map, List.getElem?_take, if_pos hj2, List.getElem?_drop, List.getElem?_eq_getElem (by omega)] at hj
  simp at hj
  rw [← hj]
  simp [List.getD, show k * 128 + j < zs.length by omega]
theorem part_len {zs : List Int} {n k : Nat} (hl : zs.length = n * 128) (hk : k < n) : ((zs.drop (k * 128)).take 128).length = 128 := by
  have hkn : (k + 1) * 128 ≤ n * 128 := Nat.mul_le_mul_right _ hk
  rw [Nat.add_mul] at hkn
  rw [List.length_take, List.length_drop]
  omega
theorem part_next {zs : List Int} (k : Nat) : zs.take (k * 128) ++ (zs.drop (k * 128)).take 128 = zs.take ((k + 1) * 128) := by
  rw [Nat.add_mul, Nat.one_mul, List.take_add]
end Go.Proofs.Ythghibopnnjboaa
