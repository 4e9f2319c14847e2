/- The model's EncodeRoot. The model joins byte strings and fills them up: l02Join, l02Fill. -/
import Derived.Test.YthkoflpcinbgeaaZp05
import Derived.Test.YthkoflpcinbgeaaZp11
namespace Go.Proofs.Ythkoflpcinbgeaa
set_option linter.unusedVariables false
set_option linter.unusedSimpArgs false
open Go.RowKit

def bytesR (s : Int) (ds : List Int) (p q : Int) : List Int := le 8 s.toNat ++ bytesW (ds ++ [p, q])
def encR (s : Int) (ds : List Int) (p q : Int) : List Int := if rightR s ds p q = true then bytesR s ds p q else []
def codeR (s : Int) (ds : List Int) (p q : Int) : Int := if rightR s ds p q = true then 0 else 7
theorem bytesR_len (s : Int) (ds : List Int) (p q : Int) (hd : ds.length = 12) : (bytesR s ds p q).length = 64 := by
  unfold bytesR
  rw [List.length_append, le_len, bytesW_len]
  simp [hd]
theorem encR_len (s : Int) (ds : List Int) (p q : Int) (hd : ds.length = 12) : (encR s ds p q).length ≤ 64 := by
  unfold encR
  split
  · rw [bytesR_len s ds p q hd]; omega
  · simp
theorem right_bd {s : Int} {ds : List Int} {p q : Int} (hd : ds.length = 12) (h : rightR s ds p q = true) : (0 ≤ s ∧ s ≤ 262144) ∧ ∀ z ∈ ds ++ [p, q], 0 ≤ z ∧ z < 2048 := by
  unfold rightR at h
  rw [Bool.and_eq_true, Bool.and_eq_true] at h
  refine ⟨⟨by simpa using h.1.1, by simpa using h.1.2⟩, fun z hz => ?_⟩
  obtain ⟨i, hi, rfl⟩ := List.getElem_of_mem hz
  have h2 := h.2
  unfold allR at h2
  rw [List.all_eq_true] at h2
  have h3 := h2 i (by simp at hi ⊢; omega)
  unfold okAt at h3
  rw [Bool.and_eq_true] at h3
  have h4 := h3.1
  have e : (ds ++ [p, q]).getD i 0 = (ds ++ [p, q])[i] := by rw [List.getD, List.getElem?_eq_getElem hi, Option.getD_some]
  rw [e] at h4
  unfold ptrB at h4
  simp at h4
  omega

end Go.Proofs.Ythkoflpcinbgeaa

namespace Go.Proofs.Ythkoflpcinbgeaa
set_option linter.unusedVariables false
set_option linter.unusedSimpArgs false
open Go.RowKit

/-- Slices that read as byte strings, one by one. -/
def AllRd (w : World) : List Value → List (List Int) → Prop
  | [], [] => True
  | v :: vs, b :: bs => Rd .u8 w v b ∧ AllRd w vs bs
  | _, _ => False
theorem AllRd.below {w w' : World} (hb : Below w.heap.size w w') : ∀ {vs : List Value} {bs : List (List Int)}, AllRd w vs bs → AllRd w' vs bs
  | [], [], _ => trivial
  | _ :: _, _ :: _, h => ⟨h.1.below hb, AllRd.below hb h.2⟩
  | [], _ :: _, h => h.elim
  | _ :: _, [], h => h.elim
theorem AllRd.snoc {w : World} {v : Value} {b : List Int} (hv : Rd .u8 w v b) : ∀ {vs : List Value} {bs : List (List Int)}, AllRd w vs bs → AllRd w (vs ++ [v]) (bs ++ [b])
  | [], [], _ => ⟨hv, trivial⟩
  | _ :: _, _ :: _, h => ⟨h.1, AllRd.snoc hv h.2⟩
  | [], _ :: _, h => h.elim
  | _ :: _, [], h => h.elim
theorem AllRd.next {w w' : World} {base : Nat} {e : TypeId} {n : Nat} {v : Value} {b : List Int} {vs : List Value} {bs : List (List Int)} (h : AllRd w vs bs) (ho : w'.ownsRow base e 1 v n (b.map (Value.int .u8))) (hb : Below w.heap.size w w') : AllRd w' (vs ++ [v]) (bs ++ [b]) :=
  (h.below hb).snoc (Rd.own ho)
theorem AllRd.len {w : World} : ∀ {vs : List Value} {bs : List (List Int)}, AllRd w vs bs → vs.length = bs.length
  | [], [], _ => rfl
  | _ :: _, _ :: _, h => by simp [AllRd.len h.2]
  | [], _ :: _, h => h.elim
  | _ :: _, [], h => h.elim
theorem AllRd.at {w : World} : ∀ {vs : List Value} {bs : List (List Int)} (k : Nat), AllRd w vs bs → k < bs.length → ∃ v, vs[k]? = some v ∧ Rd .u8 w v (bs.getD k [])
  | v :: vs, b :: bs, 0, h, _ => ⟨v, rfl, h.1⟩
  | v :: vs, b :: bs, k + 1, h, hk => by
    obtain ⟨u, h1, h2⟩ := AllRd.at k h.2 (by simpa using hk)
    exact ⟨u, by simpa using h1, by simpa using h2⟩
  | [], [], k, _, hk => by simp at hk
  | [], _ :: _, _, h, _ => h.elim
  | _ :: _, [], _, h, _ => h.elim
theorem flatten_take {α : Type} (bs : List (List α)) (k : Nat) (h : k < bs.length) : (bs.take (k + 1)).flatten = (bs.take k).flatten ++ bs.getD k [] := by
  rw [List.take_succ_eq_append_getElem h, List.flatten_append]
  simp [List.getD, h]
theorem take_flat_len {α : Type} (bs : List (List α)) (k : Nat) : (bs.take k).flatten.length ≤ bs.flatten.length := by
  conv => rhs; rw [← List.take_append_drop k bs, List.flatten_append, List.length_append]
  omega

set_option maxRecDepth 100000 in
set_option maxHeartbeats 1000000 in
theorem join_any (g n c : Nat) (vs : List Value) (bs : List (List Int)) (w : World) (hcell : ∀ j v, vs[j]? = some v → w.cell? ⟨g, j, none⟩ = some v) (hall : AllRd w vs bs) (hn : bs.length = n) (hn2 : n ≤ 1000) (hpos : ∀ b ∈ bs, 0 < b.length) (htot : bs.flatten.length ≤ 100000) (hg : g < w.heap.size) :
    Calls Try.prog 31 #[.slice (some ⟨g, 0, none⟩) n c] w fun e w' => ∃ v', e = .returned v' ∧ w'.ownsRow w.heap.size 5 1 v' bs.flatten.length (bs.flatten.map (Value.int .u8)) ∧ Below w.heap.size w w' := by
  obtain ⟨i0, hi, hz0, hz1', hz2⟩ := info_parts infoU8
  have HC := hide (And.intro hcell (And.intro hall (And.intro hpos (And.intro hn htot))))
  have H0 := hide (own_empty w 5)
  have hb0 := hide (show Below w.heap.size w (w.alloc (.cells #[] 5)) from (Below.refl _ _).alloc (Nat.le_refl _) _)
  clear hcell hall hpos hn htot
  go_enter Try.func31, Try.ntmps31
  go_wp2
  go_loopw [3, 9] (fun o i wr => ∃ k : Nat, k ≤ n ∧ i = .int .i64 k ∧ wr.ownsRow w.heap.size 5 1 o (bs.take k).flatten.length ((bs.take k).flatten.map (Value.int .u8)) ∧ Below w.heap.size w wr) (fun _ i _ => n - (intOf i).toNat)
  case atStart => exact ⟨0, by omega, rfl, by simpa using H0.out, hb0.out⟩
  case round =>
    clear H0 hb0
    obtain ⟨k, hk, rfl, hown, hb⟩ := hrel
    have hsz := hb.size
    by_cases hlt : k < n
    · obtain ⟨v, hv, hr⟩ := HC.out.2.1.at k (by rw [HC.out.2.2.2.1]; exact hlt)
      have hbk : 0 < (bs.getD k []).length := HC.out.2.2.1 _ (by
        have := HC.out.2.2.2.1
        have hk2 : k < bs.length := by omega
        simp [List.getD, hk2])
      have HT := hide (flatten_take bs k (by rw [HC.out.2.2.2.1]; exact hlt))
      have hle : (bs.take k).flatten.length + (bs.getD k []).length ≤ 100000 := by
        have h1 := take_flat_len bs (k + 1)
        rw [HT.out, List.length_append] at h1
        have := HC.out.2.2.2.2
        omega
      have c1 : wr.cell? ⟨g, k, none⟩ = some v := (hb.cell (p := ⟨g, k, none⟩) hg).trans (HC.out.1 k v hv)
      generalize bs.getD k [] = z at hr HT hbk hle
      obtain ⟨bd, off, cp, rfl, hbw, _, _, hcell3⟩ := (hr.below hb).partsC hbk
      have HX := hide (show ∀ (j : Nat) (u : Value), (z.map (Value.int .u8))[j]? = some u → wr.cell? ((⟨bd, off, none⟩ : Addr).add j) = some u from fun j u hj => by
        have hjl : j < z.length := by
          rcases Nat.lt_or_ge j z.length with h | h
          · exact h
          · rw [List.getElem?_eq_none (by simpa using h)] at hj; cases hj
        have ea : (⟨bd, off, none⟩ : Addr).add j = ⟨bd, off + j, none⟩ := by unfold Addr.add; split <;> simp_all
        rw [ea, hcell3 j hjl]
        rw [List.getElem?_map, List.getElem?_eq_getElem hjl] at hj
        simp at hj
        rw [← hj]
        simp [List.getD, hjl])
      have HO := hide (And.intro hown hb)
      clear hcell3 hr hown hb hv
      go_wp2_with (at_builtin; refine append_fresh _ rfl (.tmp 13) (.tmp 14) 22 rfl w.heap.size 5 i0 (.int .u8 0) 1 1 Try.underlying22 hi hz0 hz1' hz2 rfl (by decide) _ _ _ rfl HO.out.1 ⟨bd, off, none⟩ z.length cp (z.map (Value.int .u8)) rfl (by simp) HX.out (ints_oneCell _ _) hbk (by unfold maxLen; omega) (by omega) (by omega) ?_; intro v4 w4 o4 g4 f4)
      have HW := hide (show w4.ownsRow w.heap.size 5 1 v4 (bs.take (k + 1)).flatten.length ((bs.take (k + 1)).flatten.map (Value.int .u8)) ∧ Below w.heap.size w w4 from by
        refine ⟨?_, HO.out.2.grown g4 (by omega) (fun r h => (HO.out.1.lt r h).1)⟩
        rw [HT.out, List.map_append, List.length_append]
        exact o4)
      clear o4 g4 f4
      go_roundw
      case rel => exact ⟨k + 1, by omega, by go_num, HW.out.1, HW.out.2⟩
      case measure => simp [intOf]; omega
    · have HO := hide (And.intro hown hb)
      have e : k = n := by omega
      clear hown hb
      go_wp2
      go_ret
      have h2 := HO.out
      rw [List.take_of_length_le (by rw [HC.out.2.2.2.1]; omega)] at h2
      exact ⟨_, rfl, h2.1, h2.2⟩

end Go.Proofs.Ythkoflpcinbgeaa
