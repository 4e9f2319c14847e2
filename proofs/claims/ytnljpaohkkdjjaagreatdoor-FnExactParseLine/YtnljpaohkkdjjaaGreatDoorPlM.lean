/- strconv.Atoi at every string, where the library's two errors are laid. -/
import Derived.Test.YtnljpaohkkdjjaaGreatDoorPlS
import Derived.Test.YtnljpaohkkdjjaaGreatDoorPlL
import Derived.Lib.AtoiErrMem
namespace Go.Proofs.YtnljpaohkkdjjaaGreatDoor
set_option linter.unusedVariables false
set_option linter.unusedSimpArgs false
open Go.RowKit

/-- The library's two errors lie where its start lays them. -/
def ErrV (w : World) : Prop := (∃ tp p, w.var? Tryz.prog "strconv.ErrSyntax" = some #[.iface tp p]) ∧ ∃ tp p, w.var? Tryz.prog "strconv.ErrRange" = some #[.iface tp p]
theorem var_below {P : Program} {name : String} {cs : Array Value} {w w' : World} (h : w.var? P name = some cs) (hb : Below w.heap.size w w') : w'.var? P name = some cs := by
  unfold World.var? at *
  cases hg : P.globalNamed name with
  | none => simp [hg] at h
  | some g =>
    simp only [hg, Option.bind_some] at h ⊢
    have hlt : g < w.heap.size := by
      rcases Nat.lt_or_ge g w.heap.size with h1 | h1
      · exact h1
      · rw [Array.getElem?_eq_none h1] at h; simp at h
    rw [hb.block g hlt]
    exact h
theorem ErrV.below {w w' : World} (h : ErrV w) (hb : Below w.heap.size w w') : ErrV w' := by
  obtain ⟨⟨t1, p1, h1⟩, ⟨t2, p2, h2⟩⟩ := h
  exact ⟨⟨t1, p1, var_below h1 hb⟩, ⟨t2, p2, var_below h2 hb⟩⟩
theorem atoi_any (s : ByteArray) (w : World) (hs : s.size ≤ 1048576) (hv : ErrV w) :
    Calls Tryz.prog 54 #[.string s] w fun e w' => ∃ n ev, e = .returned (.tuple #[.int .i64 n, ev]) ∧ (numOk s.data.toList = true → n = numV s.data.toList) ∧ Below w.heap.size w w' := by
  obtain ⟨⟨t1, p1, h1⟩, ⟨t2, p2, h2⟩⟩ := hv
  cases h : Lib.atoiAll s.data.toList with
  | ok v =>
    refine (atoi_ok s (by omega) v h w).mono ?_
    rintro e w' ⟨rfl, hw⟩
    refine ⟨v, .nilIface, rfl, fun hn => ?_, ?_⟩
    · rw [atoi_num _ hn] at h
      injection h with h
      exact h.symm
    · rcases hw with rfl | ⟨t, rfl⟩
      · exact Below.refl _ _
      · exact Go.Lib.bytesWorld_below w _ t
  | «syntax» =>
    refine (Any.strconv_Atoi_syntax_var laysAtoi s (by omega) h t1 p1 w h1).mono ?_
    rintro e w' ⟨N, rfl, _, _, hb⟩
    exact ⟨_, _, rfl, (fun hn => by rw [atoi_num _ hn] at h; cases h), hb⟩
  | range =>
    refine (Any.strconv_Atoi_range_var laysAtoi s (by omega) h t2 p2 w h2).mono ?_
    rintro e w' ⟨N, rfl, _, _, hb⟩
    exact ⟨_, _, rfl, (fun hn => by rw [atoi_num _ hn] at h; cases h), hb⟩
end Go.Proofs.YtnljpaohkkdjjaaGreatDoor
