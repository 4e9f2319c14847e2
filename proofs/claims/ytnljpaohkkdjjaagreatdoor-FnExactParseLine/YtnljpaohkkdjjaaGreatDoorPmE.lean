/- The program's readLine: what it stands on. -/
import Derived.Test.YtnljpaohkkdjjaaGreatDoorPmD
import Derived.Test.YtnljpaohkkdjjaaGreatDoorPlQ
import Derived.Test.YtnljpaohkkdjjaaGreatDoorPlR
namespace Go.Proofs.YtnljpaohkkdjjaaGreatDoor
set_option linter.unusedVariables false
set_option linter.unusedSimpArgs false
open Go.RowKit

theorem infoSTT : (Tryz.prog.info? 9).map (fun i => (i.zero, i.size, i.bytes)) = some (some (.string ⟨#[]⟩), 1, 16) := by kernel_rfl
/-- The words behind the first one. -/
theorem tail_words {w : World} {base n : Nat} {v : Value} {x : List UInt8} {xs : List (List UInt8)} (h : w.ownsRow base 9 1 v n ((x :: xs).map fun y => Value.string (mk y))) :
    ∃ g cap v', v = .slice (some ⟨g, 0, none⟩) n cap ∧ n = xs.length + 1 ∧ base ≤ g ∧ g < w.heap.size ∧ w.cell? ⟨g, 0, none⟩ = some (.string (mk x)) ∧ RdW w v' (xs.map mk) ∧ ∀ wx, (Instr.slice 30 v (some (.int .i64 1)) none none).run Tryz.prog wx = .ok v' wx := by
  have hn : n = xs.length + 1 := by have := h.1; simp at this; omega
  obtain ⟨i0, hi0, hz0, hz1, hz2⟩ := info_parts infoSTT
  have hr := h
  rcases h.2 with ⟨rfl, e0⟩ | ⟨g, cap, cur, rfl, hb, hg, hcap, hcm, _⟩
  · omega
  have hc : ∀ (j : Nat) (u : Value), ((x :: xs).map fun y => Value.string (mk y))[j]? = some u → w.cell? ⟨g, j, none⟩ = some u := fun j u hu => by
    have := hr.cells (g := g) rfl j u hu
    rw [Addr.add_mid, Nat.zero_add] at this
    exact this
  refine ⟨g, cap, sliced (some ⟨g, 0, none⟩) 1 n cap 1, rfl, hn, hb, (Array.getElem?_eq_some_iff.1 hg).1, hc 0 _ rfl, ?_, fun wx => ?_⟩
  · refine ⟨_, _, (by unfold sliced; rw [List.length_map, hn]; rfl), fun hp => ?_⟩
    rw [List.length_map] at hp
    refine ⟨g, 1, ?_, (Array.getElem?_eq_some_iff.1 hg).1, fun i y hy => ?_⟩
    · rw [if_neg (by omega)]
      rfl
    · rw [hc (1 + i) (.string y) ?_]
      rw [Nat.add_comm 1 i]
      simp only [List.map_cons, List.getElem?_cons_succ]
      rw [List.getElem?_map] at hy ⊢
      cases hq : xs[i]? with
      | none => rw [hq] at hy; simp at hy
      | some z => rw [hq] at hy; simp at hy ⊢; exact hy
  · rw [run_slice_l (P := Tryz.prog) (w := wx) 30 (some ⟨g, 0, none⟩) n cap (by kernel_rfl) .i64 1 (by omega) (by omega)]
    simp [sizeOf, typeInfo, show Tryz.prog.elem 30 = 9 from by kernel_rfl, hi0, hz1, Result.andThen]
/-- A look into the map of the commands. -/
theorem zero_cmd (W : World) : (zeroValue 57).run Tryz.prog W = .ok (.agg #[.int .i64 0, .nilFunc, .slice none 0 0]) W := by kernel_rfl
theorem run_look {b : Nat} {V : List Value} {W : World} (s : ByteArray) (hV : V.length = 27) (hb : W.heap[b]? = some (.map (entM 0 cmdN V).toArray 27)) :
    (Instr.lookup 43 (.map (some b)) (.string s) true).run Tryz.prog W = .ok (match cmdAt s.data.toList with | some k => .tuple #[V.getD k undef, .bool true] | none => .tuple #[.agg #[.int .i64 0, .nilFunc, .slice none 0 0], .bool false]) W := by
  have hf := run_find s cmdN V 0 (by rw [hV]; rfl) W
  have hc := fun e => run_check (b := e) s W
  unfold cmdAt
  generalize entM 0 cmdN V = E at hf hb
  generalize cmdN = N at hf
  have h0 : (Instr.lookup 43 (.map (some b)) (.string s) true).run Tryz.prog W = ((Instr.findKey 9 (.string s) E).run Tryz.prog W).andThen fun r W => match r with | some (_, v) => .ok (.tuple #[v, .bool true]) W | none => ((zeroValue 57).run Tryz.prog W).andThen fun z W => .ok (.tuple #[z, .bool false]) W := by
    simp [Instr.lookup, run_underlying Tryz.underlying43, MapKept.run_getObj_map hb, hc, Result.andThen]
    cases (Instr.findKey 9 (.string s) E).run Tryz.prog W with
    | ok r w' =>
      cases r with
      | none => simp
      | some p => rfl
    | halt h w' => rfl
  rw [h0, hf]
  cases N.findIdx? (· == s.data.toList) with
  | none => simp [Result.andThen, zero_cmd]
  | some k => rfl
end Go.Proofs.YtnljpaohkkdjjaaGreatDoor
