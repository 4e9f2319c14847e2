/- The model reads a log: small notions. -/
import Derived.Test.YthkoflpcinbgeaaZp38
import Derived.Test.YthkoflpcinbgeaaZp43
import Derived.Test.YthkoflpcinbgeaaZp44
namespace Go.Proofs.Ythkoflpcinbgeaa
set_option linter.unusedVariables false
set_option linter.unusedSimpArgs false
open Go.RowKit

/-- A piece of a slice, from its beginning; a piece up to its end. -/
theorem slice_pieceH {w0 : World} {a : Option Addr} {len cap : Nat} {zs : List Int} (h : Rd .u8 w0 (.slice a len cap) zs) (hi : Nat) (h2 : hi ≤ zs.length) :
    ∃ a' c', Rd .u8 w0 (.slice a' hi c') (zs.take hi) ∧ ∀ wx, (Instr.slice 22 (.slice a len cap) none (some (.int .i64 (hi : Int))) none).run Try.prog wx = .ok (.slice a' hi c') wx := by
  obtain ⟨i0, hi0, hz0, hz1, hz2⟩ := info_parts infoU8
  obtain ⟨a', c', hr, hrun⟩ := slice_piece h 0 hi (by omega) h2
  have hl : len = zs.length := by obtain ⟨_, _, e, _⟩ := h; injection e
  obtain ⟨_, _, _, _, _, hl2, hcm⟩ := h
  rename_i a0 cap0 e0 _ _
  injection e0 with e1 e2 e3
  subst e3
  simp only [Nat.sub_zero, List.drop_zero] at hr hrun
  refine ⟨a', c', hr, fun wx => ?_⟩
  rw [← hrun wx, run_slice_h (P := Try.prog) (w := wx) 22 a len cap (by rw [Try.underlying22]; rfl) .i64 (hi : Int) (by omega) (by omega), run_slice_lh (P := Try.prog) (w := wx) 22 a len cap (by rw [Try.underlying22]; rfl) .i64 .i64 ((0 : Nat) : Int) (hi : Int) (by omega) (by omega) (by omega)]
  rfl
theorem slice_pieceL {w0 : World} {a : Option Addr} {len cap : Nat} {zs : List Int} (h : Rd .u8 w0 (.slice a len cap) zs) (lo : Nat) (h2 : lo ≤ zs.length) :
    ∃ a' c', Rd .u8 w0 (.slice a' (zs.length - lo) c') (zs.drop lo) ∧ ∀ wx, (Instr.slice 22 (.slice a len cap) (some (.int .i64 (lo : Int))) none none).run Try.prog wx = .ok (.slice a' (zs.length - lo) c') wx := by
  obtain ⟨a', c', hr, hrun⟩ := slice_piece h lo zs.length h2 (Nat.le_refl _)
  have hl : len = zs.length := by obtain ⟨_, _, e, _⟩ := h; injection e
  obtain ⟨_, _, e0, _, _, hl2, hcm⟩ := h
  injection e0 with e1 e2 e3
  subst e3
  rw [List.take_of_length_le (by rw [List.length_drop]; omega)] at hr
  refine ⟨a', c', hr, fun wx => ?_⟩
  rw [← hrun wx, run_slice_l (P := Try.prog) (w := wx) 22 a len cap (by rw [Try.underlying22]; rfl) .i64 (lo : Int) (by omega) (by omega), run_slice_lh (P := Try.prog) (w := wx) 22 a len cap (by rw [Try.underlying22]; rfl) .i64 .i64 (lo : Int) (zs.length : Int) (by omega) (by omega) (by omega)]
  rw [Int.toNat_natCast, hl, Int.toNat_natCast]
/-- An entry as an element of a list. -/
def neE (e : EntL) : NE := ([.int .i64 (e.n : Int), .int .i64 e.K, .int .i64 e.A, .int .i64 e.B, .int .i64 e.U, .int .i64 e.G, .string e.p, .string e.q], e.ds)
theorem neE_pre (L : List EntL) : ∀ l ∈ L.map neE, l.1.length = 8 := by
  intro l hl
  obtain ⟨e, _, rfl⟩ := List.mem_map.1 hl
  rfl
/-- The number of the entry ahead of place k. -/
def lastN (L : List EntL) (k : Nat) : Option Nat := if k = 0 then none else (L[k - 1]?).map (·.n)
theorem lastN_succ {L : List EntL} {k : Nat} {e : EntL} (h : L[k]? = some e) : lastN L (k + 1) = some e.n := by
  unfold lastN
  rw [if_neg (by omega), Nat.add_sub_cancel, h]
  rfl
theorem sc_next {L : List EntL} {o : Option Nat} {k : Nat} {e : EntL} {Z r : List Int} (hS : Sc o Z (L.drop k)) (hb : ∀ z ∈ Z, 0 ≤ z ∧ z < 256) (he : e.ok) (hf : folE o e) (hz : Z = e.raw ++ r) : L[k]? = some e ∧ Sc (some e.n) r (L.drop (k + 1)) ∧ k < L.length := by
  obtain ⟨L', hL, hS'⟩ := hS.head hb he hf hz
  have hk2 : k < L.length := by
    rcases Nat.lt_or_ge k L.length with h | h
    · exact h
    · rw [List.drop_eq_nil_of_le h] at hL; cases hL
  rw [List.drop_eq_getElem_cons hk2] at hL
  injection hL with hL1 hL2
  exact ⟨by rw [List.getElem?_eq_getElem hk2, hL1], by rw [hL2]; exact hS', hk2⟩
theorem sc_stop {L : List EntL} {o : Option Nat} {k : Nat} {Z : List Int} (hS : Sc o Z (L.drop k)) (hk : k ≤ L.length) (hno : ∀ (f : EntL) (r : List Int), f.ok → folE o f → Z ≠ f.raw ++ r) : k = L.length := by
  have h := congrArg List.length (hS.nothing hno)
  rw [List.length_drop] at h
  simp at h
  omega
/-- What the model would find, if there is a record. -/
theorem ms_back {Z r : List Int} {f : EntL} (hb : ∀ z ∈ Z, 0 ≤ z ∧ z < 256) (hf : f.ok) (hz : Z = f.raw ++ r) :
    16 ≤ Z.length ∧ unle ((Z.drop 8).take 4) ≤ Z.length - 16 ∧ IsOpB ((Z.drop 16).take (unle ((Z.drop 8).take 4))) ∧ gval (Z.take 8) = f.n ∧ recO f.n ((Z.drop 16).take (unle ((Z.drop 8).take 4))) = Z.take (16 + unle ((Z.drop 8).take 4)) := by
  obtain ⟨a1, a2, a3, a4, a5, a6, a7⟩ := ent_back hf hz hb
  have hn := hf.1
  rw [a3, a5]
  refine ⟨by omega, by omega, (EntL.isRec hf r).2.2.1, by rw [gval_small _ (by rw [a2]; omega), a2], ?_⟩
  have : f.raw.length = 16 + f.body.length := by unfold EntL.raw; rw [recO_len]
  rw [hz, ← this, List.take_left]
  rfl
/-- What the model found makes a record. -/
theorem ms_of {Z : List Int} (hb : ∀ z ∈ Z, 0 ≤ z ∧ z < 256) {g m : Nat} (hm : 16 + m ≤ Z.length) {K A B U G : Int} {p q : ByteArray} {ds : List Int} (hD : IsDec ((Z.drop 16).take m) K A B U G p q ds 0) (hg : wi (g : Int) 1 1099511627776 = true) (he : recO g ((Z.drop 16).take m) = Z.take (16 + m)) :
    (⟨g, K, A, B, U, G, p, q, ds⟩ : EntL).ok ∧ Z = (⟨g, K, A, B, U, G, p, q, ds⟩ : EntL).raw ++ Z.drop (16 + m) ∧ (⟨g, K, A, B, U, G, p, q, ds⟩ : EntL).raw.length = 16 + m := by
  rcases hD with ⟨_, d2, d3, d4, d5⟩ | ⟨d1, _⟩
  · have hbd : (⟨g, K, A, B, U, G, p, q, ds⟩ : EntL).raw = Z.take (16 + m) := by
      unfold EntL.raw EntL.body
      rw [← d2]
      exact he
    refine ⟨⟨?_, d3, d4, d5⟩, ?_, ?_⟩
    · unfold wi at hg
      simp at hg
      simp only
      omega
    · rw [hbd, List.take_append_drop]
    · rw [hbd, List.length_take]
      omega
  · omega
def sliceLen : Value → Nat | .slice _ n _ => n | _ => 0
theorem OwnN.empty (w : World) (e : TypeId) (m : Nat) : OwnN (w.alloc (.cells #[] e)) w.heap.size e m (.slice (some ⟨w.heap.size, 0, none⟩) 0 0) [] [] :=
  ⟨rfl, fun l h => (by cases h), ⟨by simp [cellsN], .inr ⟨w.heap.size, 0, #[], rfl, Nat.le_refl _, heap_alloc_new w _, Nat.le_refl _, by unfold maxLen; omega, by simp, by simp [cellsN]⟩⟩, fun i u l h => (by simp at h), fun i j u u' b h => (by simp at h)⟩
end Go.Proofs.Ythkoflpcinbgeaa
