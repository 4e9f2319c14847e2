/- The model's words of a line (l15Words). -/
import Derived.Test.YtnljpaohkkdjjaaGreatDoorPlF
namespace Go.Proofs.YtnljpaohkkdjjaaGreatDoor
set_option linter.unusedVariables false
set_option linter.unusedSimpArgs false
open Go.RowKit

def neL (x : List UInt8) : Bool := !x.isEmpty
def wordsL (l : List UInt8) : List (List UInt8) := (cutL 32 l).filter neL
/-- Words being gathered out of the pieces P. -/
structure WsI (w W1 : World) (P : List (List UInt8)) (k : Nat) (O : List (List UInt8)) (v : Value) (wr : World) : Prop where
  own : wr.ownsRow w.heap.size 9 1 v O.length (O.map fun x => Value.string (mk x))
  at_ : v.ownBlock = some w.heap.size ∨ ∃ g, v.ownBlock = some g ∧ W1.heap.size ≤ g
  fr : ∀ b, b < W1.heap.size → b ≠ w.heap.size → wr.heap[b]? = W1.heap[b]?
  siz : W1.heap.size ≤ wr.heap.size
  bel : Below w.heap.size w wr
  eq_ : O = (P.take k).filter neL
theorem ws_skip {w W1 wr : World} {P O : List (List UInt8)} {k : Nat} {v : Value} {x : List UInt8} (h : WsI w W1 P k O v wr) (hx : P[k]? = some x) (hn : neL x = false) : WsI w W1 P (k + 1) O v wr :=
  ⟨h.own, h.at_, h.fr, h.siz, h.bel, by rw [List.take_add_one, hx, List.filter_append, ← h.eq_]; simp [hn]⟩
theorem ws_push {w W1 wr w' : World} {P O : List (List UInt8)} {k n : Nat} {v v' : Value} {x : List UInt8} {o : Obj} (h : WsI w W1 P k O v wr) (hx : P[k]? = some x) (hn : neL x = true) (hO : n = O.length)
    (ho : w'.ownsRow w.heap.size 9 1 v' (n + 1) ((O.map fun x => Value.string (mk x)) ++ [.string (mk x)])) (hg : (wr.alloc o).grownBy w' v.ownBlock) (hp : v'.ownBlock = v.ownBlock ∨ v'.ownBlock = some (wr.alloc o).heap.size) : WsI w W1 P (k + 1) (O ++ [x]) v' w' := by
  subst hO
  have hs : (wr.alloc o).heap.size = wr.heap.size + 1 := by simp
  have hsz := h.siz
  refine ⟨?_, ?_, fun b hb hne => ?_, ?_, ?_, ?_⟩
  · rw [List.length_append, List.map_append]
    exact ho
  · rcases hp with e | e
    · rw [e]; exact h.at_
    · exact .inr ⟨_, e, by omega⟩
  · rw [hg.block b (by omega) (fun e => ?_), Below.heap_alloc wr o b (by omega), h.fr b hb hne]
    rcases h.at_ with e2 | ⟨g, e2, hge⟩
    · rw [e2] at e; exact hne (Option.some.inj e)
    · rw [e2] at e
      have := Option.some.inj e
      omega
  · have := hg.size
    omega
  · exact (h.bel.alloc h.bel.size o).grown hg (by have := h.bel.size; omega) (fun r hr => (h.own.lt r hr).1)
  · rw [List.take_add_one, hx, List.filter_append, ← h.eq_]
    simp [hn]
theorem cell_sameP {w w2 : World} {b o : Nat} (h : w.heap[b]? = w2.heap[b]?) : w.cell? ⟨b, o, none⟩ = w2.cell? ⟨b, o, none⟩ := by
  unfold World.cell?
  simp only [h]
theorem mk_empty (x : List UInt8) : (mk x).toList.isEmpty = !(neL x) := by
  rw [isEmpty_data, mk_toList]
  simp [neL]
set_option maxRecDepth 100000 in
set_option maxHeartbeats 2000000 in
theorem words_any (s : ByteArray) (w : World) (hs : s.size ≤ 1048576) :
    Calls Tryz.prog 9 #[.string s] w fun e w' => ∃ v, e = .returned v ∧ w'.ownsRow w.heap.size 9 1 v (wordsL s.data.toList).length ((wordsL s.data.toList).map fun x => Value.string (mk x)) ∧ Below w.heap.size w w' := by
  have HLL := hide (show s.data.toList.length = s.size from rfl)
  obtain ⟨i0, hi, hz0, hz1, hz2⟩ := info_parts infoST
  have B0 := hide (show Below w.heap.size w (w.alloc (.cells #[] 9)) from (Below.refl _ _).alloc (Nat.le_refl _) _)
  have E0 := hide (own_emptyT w 9 1)
  have hsz : (w.alloc (.cells #[] 9)).heap.size = w.heap.size + 1 := by simp
  have HSZ := hide hsz
  clear hsz
  go_enter Tryz.func9, Tryz.ntmps9
  go_wp2_with (go_at_call 20; fail)
  refine (cut_any s 32 _ hs).mono ?_
  rintro e W1 ⟨v1, rfl, o1, b1⟩
  have hpl := cut_len 32 s.data.toList
  rw [HLL.out] at hpl
  have HWL := hide (show wordsL s.data.toList = (cutL 32 s.data.toList).filter neL from rfl)
  generalize cutL 32 s.data.toList = P at o1 hpl HWL
  obtain ⟨m, hm⟩ : ∃ m, m = P.length := ⟨_, rfl⟩
  rw [← hm] at o1 hpl
  have HMM := hide hm
  clear hm
  have O1 := hide o1
  have W0 := hide (show WsI w W1 P 0 [] (.slice (some ⟨w.heap.size, 0, none⟩) 0 0) W1 from ⟨own_below E0.out b1, .inl rfl, fun _ _ _ => rfl, Nat.le_refl _, B0.out.trans (b1.mono B0.out.size), rfl⟩)
  obtain ⟨pa, pc, rfl⟩ := own_shapeT o1
  clear o1 b1 B0 E0
  go_wp2_with fail
  go_loopw [3, 10] (fun v i wr => ∃ (k : Nat) (O : List (List UInt8)), k ≤ m ∧ O.length ≤ k ∧ i = .int .i64 (k : Int) ∧ Hid (WsI w W1 P k O v wr)) (fun _ i _ => m - (intOf i).toNat)
  case atStart => exact ⟨0, [], Nat.zero_le _, by simp, rfl, W0⟩
  case round =>
    obtain ⟨k, O, hk, hok, rfl, HW⟩ := hrel
    obtain ⟨n, hn⟩ : ∃ n : Nat, n = O.length := ⟨_, rfl⟩
    have HO := hide (show wr.ownsRow w.heap.size 9 1 u3 n (O.map fun x => Value.string (mk x)) from by rw [hn]; exact HW.out.own)
    have HN := hide hn
    have hnk : n ≤ k := by omega
    have HB := hide HW.out.bel.size
    clear hn
    obtain ⟨va, vc, rfl⟩ := own_shapeT HO.out
    by_cases hlt : k < m
    · obtain ⟨x, hx⟩ : ∃ x, P[k]? = some x := ⟨_, List.getElem?_eq_getElem (by rw [← HMM.out]; exact hlt)⟩
      have hcell : ∃ g, pa = some ⟨g, 0, none⟩ ∧ wr.cell? ⟨g, k, none⟩ = some (.string (mk x)) := by
        rcases O1.out.2 with ⟨e, h0⟩ | ⟨g, cap, cur, e, hgb, hgg, _⟩
        · omega
        · injection e with e1 e2 e3
          refine ⟨g, e1, ?_⟩
          have hg1 : g < W1.heap.size := (Array.getElem?_eq_some_iff.1 hgg).1
          have hg2 : g ≠ w.heap.size := by have := HSZ.out; omega
          rw [cell_sameP (HW.out.fr g hg1 hg2)]
          have h1 := O1.out
          rw [e1] at h1
          have h2 := h1.cellAt k (by omega)
          rw [h2]
          simp [hx]
      obtain ⟨g, rfl, hc⟩ := hcell
      have HX := hide hx
      have hem := mk_empty x
      clear hx
      cases hne : neL x with
      | true =>
        rw [hne] at hem
        have hem2 : (mk x).toList.isEmpty = false := hem
        have HNE := hide hne
        clear hem hne
        go_wp2_with (at_builtin; refine wpList_append_own_at _ rfl (.tmp 16) (.tmp 18) 30 rfl w.heap.size 9 i0 (.string ⟨#[]⟩) 1 16 Tryz.underlying30 hi hz0 hz1 hz2 rfl (by decide) _ n _ rfl (own_below HO.out ((Below.refl _ _).alloc (Nat.le_refl _) _)) ⟨wr.heap.size, 0, none⟩ 1 1 [.string (mk x)] rfl rfl (one_cell wr _ _) (one_strT _) (by unfold maxLen; omega) (by omega) (by have := HB.out; simp; omega) ?_; intro v2 w2 o2 g2 p1 p2; have HV := hide (ws_push HW.out HX.out HNE.out HN.out o2 g2 p2); clear o2 g2 p1 p2)
        go_roundw
        case rel => exact ⟨k + 1, _, by omega, by have := HN.out; simp; omega, by go_num, HV⟩
        case measure => simp [intOf]; omega
      | false =>
        rw [hne] at hem
        have hem2 : (mk x).toList.isEmpty = true := hem
        have HV := hide (ws_skip HW.out HX.out hne)
        clear hem hne
        go_wp2_with fail
        go_roundw
        case rel => exact ⟨k + 1, O, by omega, by omega, by go_num, HV⟩
        case measure => simp [intOf]; omega
    · have HF := hide (show O = wordsL s.data.toList from by
        have h := HW.out.eq_
        rw [List.take_of_length_le (by rw [← HMM.out]; omega)] at h
        rw [HWL.out]
        exact h)
      go_wp2
      go_ret
      have h := HW.out.own
      rw [HF.out] at h
      have hn2 := HN.out
      rw [HF.out] at hn2
      rw [← hn2] at h ⊢
      exact ⟨_, rfl, h, HW.out.bel⟩
end Go.Proofs.YtnljpaohkkdjjaaGreatDoor
