/- The program's isMadeOf: whether a word has no other bytes than these. -/
import Derived.Test.YtnljpaohkkdjjaaGreatDoorPlS
import Derived.Test.YtnljpaohkkdjjaaGreatDoorTaB
namespace Go.Proofs.YtnljpaohkkdjjaaGreatDoor
set_option linter.unusedVariables false
set_option linter.unusedSimpArgs false
open Go.RowKit

theorem dropW_nil {p : UInt8 → Bool} : ∀ l : List UInt8, (l.dropWhile p = []) ↔ l.all p = true
  | [] => by simp
  | c :: l => by
    rw [List.dropWhile_cons, List.all_cons]
    cases h : p c with
    | true => simpa using dropW_nil l
    | false => simp
theorem trim_nil (l cs : List UInt8) : (Lib.trimS l cs).isEmpty = l.all (cs.contains ·) := by
  rw [Bool.eq_iff_iff, List.isEmpty_iff]
  unfold Lib.trimS Lib.trimLeftS Lib.trimRightS
  rw [dropW_nil]
  constructor
  · intro h
    by_cases he : l.reverse.dropWhile (cs.contains ·) = []
    · have := (dropW_nil _).1 he
      rwa [List.all_reverse] at this
    · exfalso
      cases hd : l.reverse.dropWhile (cs.contains ·) with
      | nil => exact he hd
      | cons a r =>
        have ha : cs.contains a = false := by
          have := List.head?_dropWhile_not (cs.contains ·) l.reverse
          rw [hd] at this
          simpa using this
        rw [hd] at h
        rw [List.all_reverse, List.all_cons, ha] at h
        simp at h
  · intro h
    have : l.reverse.dropWhile (cs.contains ·) = [] := (dropW_nil _).2 (by rw [List.all_reverse]; exact h)
    rw [this]
    rfl
set_option maxRecDepth 100000 in
theorem made_any (s cs : ByteArray) (w : World) (hs : s.size ≤ 1048576) (hcs : cs.size ≤ 100) (ha : ∀ (j : Nat) b, cs.data.toList[j]? = some b → b.toNat < 128) :
    Calls Tryz.prog 52 #[.string s, .string cs] w fun e w' => e = .returned (.bool (s.data.toList.all (cs.data.toList.contains ·))) ∧ Below w.heap.size w w' := by
  have HT := hide (show (⟨(Lib.trimS s.data.toList cs.data.toList).toArray⟩ : ByteArray).toList.isEmpty = s.data.toList.all (cs.data.toList.contains ·) from by
    rw [isEmpty_data]
    exact trim_nil _ _)
  have HC := hide (fun W => trimSet s cs W (by omega) (by omega) ha)
  generalize (⟨(Lib.trimS s.data.toList cs.data.toList).toArray⟩ : ByteArray) = t at HT HC
  generalize s.data.toList.all (cs.data.toList.contains ·) = bb at HT ⊢
  have ht := HT.out
  clear HT
  go_enter Tryz.func52, Tryz.ntmps52
  go_wp2_with (go_at_call 59; refine (HC.out _).mono ?_; rintro e w1 ⟨rfl, b1⟩; have B1 := hide b1; clear b1)
  go_ret
  exact ⟨rfl, B1.out⟩
end Go.Proofs.YtnljpaohkkdjjaaGreatDoor
