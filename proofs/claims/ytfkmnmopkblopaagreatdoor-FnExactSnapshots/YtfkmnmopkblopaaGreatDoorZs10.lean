/- The program's look at an inode: inodeFault. EncodeWords, the model's and the program's: both give encW. append to an owned row: where it moves, it moves to new memory. -/
import Derived.Test.YtfkmnmopkblopaaGreatDoorZs08
import Derived.Test.YtfkmnmopkblopaaGreatDoorZs09
import Derived.Test.YtfkmnmopkblopaaGreatDoorZs05
import Derived.Test.YtfkmnmopkblopaaGreatDoorZs03
import Derived.Test.YtfkmnmopkblopaaGreatDoorZs01
import Derived.OwnWalk
import Derived.ArgAppend
namespace Go.Proofs.YtfkmnmopkblopaaGreatDoor
set_option linter.unusedVariables false
set_option linter.unusedSimpArgs false
open Go.RowKit


end Go.Proofs.YtfkmnmopkblopaaGreatDoor

namespace Go.Proofs.YtfkmnmopkblopaaGreatDoor
open Go.RowKit

def okW (v : Int) : Bool := decide (0 ≤ v) && decide (v ≤ 4294967295)
def bytesW (ws : List Int) : List Int := ws.flatMap fun v => le 4 v.toNat
def goodW (ws : List Int) : Bool := decide (ws.length = 128) && ws.all okW
def encW (ws : List Int) : List Int := if goodW ws = true then bytesW ws else []
def codeW (ws : List Int) : Int := if goodW ws = true then 0 else 7

theorem bytesW_len (ws : List Int) : (bytesW ws).length = 4 * ws.length := by
  unfold bytesW
  induction ws with
  | nil => rfl
  | cons v ws ih => rw [List.flatMap_cons, List.length_append, ih, le_len, List.length_cons]; omega
theorem bytesW_take (ws : List Int) (k : Nat) (h : k < ws.length) : bytesW (ws.take (k + 1)) = bytesW (ws.take k) ++ le 4 (ws.getD k 0).toNat := by
  unfold bytesW
  rw [List.take_succ_eq_append_getElem h, List.flatMap_append]
  simp [List.getD, h]
theorem all_take (ws : List Int) (k : Nat) (h : k < ws.length) : (ws.take (k + 1)).all okW = ((ws.take k).all okW && okW (ws.getD k 0)) := by
  rw [List.take_succ_eq_append_getElem h, List.all_append]
  simp [List.getD, h]
theorem bad_of_get (ws : List Int) (k : Nat) (h : k < ws.length) (hb : okW (ws.getD k 0) = false) : goodW ws = false := by
  unfold goodW
  rw [Bool.and_eq_false_iff]
  right
  rw [List.all_eq_false]
  refine ⟨ws.getD k 0, ?_, by rw [hb]; simp⟩
  simp [List.getD, h]

end Go.Proofs.YtfkmnmopkblopaaGreatDoor

namespace Go.Proofs.YtfkmnmopkblopaaGreatDoor
open Go.RowKit

theorem append_fresh {P : Program} (w : World) {ops : Array Oper} {rest : List Oper} {o : Oper} {a : Act} {Q : Exit → Act → World → Prop}
    (hg : o.guard = none) (s x : Operand) (t : TypeId) (hop : o.op = Op.call { callee := Callee.builtin Builtin.append, args := #[s, x], argTypes := #[t, t] })
    (base : Nat) (e : TypeId) (i : TypeInfo) (z : Value) (size bytes : Nat) (h1 : P.underlying t = some (.slice e)) (h2 : P.info? e = some i) (h3 : i.zero = some z) (h4 : i.size = size) (h5 : i.bytes = bytes) (h6 : z.cells.size = size) (h7 : 0 < size)
    (v : Value) (n : Nat) (xs : List Value) (hs : a.eval s = v) (hown : w.ownsRow base e size v n xs)
    (ad : Addr) (m c : Nat) (news : List Value) (hx : a.eval x = .slice (some ad) m c) (hn : news.length = m * size) (hc : ∀ j u, news[j]? = some u → w.cell? (ad.add j) = some u) (h1c : ∀ u ∈ news, u.oneCell' = true)
    (hm : 0 < m) (b1 : n + m ≤ maxLen) (b2 : (n + m) * bytes ≤ 140737488355328) (b3 : base ≤ w.heap.size)
    (hK : ∀ v' w', w'.ownsRow base e size v' (n + m) (xs ++ news) → w.grownBy w' v.ownBlock → (∀ k, v'.ownBlock = some k → v.ownBlock = some k ∨ w.heap.size ≤ k) → wpList P ops Q rest (a.put o.dst v') w') :
    wpList P ops Q (o :: rest) a w := by
  have weak : ∀ w', w.grownBy w' none → ∀ r, w.grownBy w' r := fun w' h r => ⟨h.os, h.tape, h.output, h.size, fun k hk _ => h.block k hk (by simp)⟩
  rcases hown.2 with ⟨rfl, rfl⟩ | ⟨g, cap, cur, rfl, hb, hgr, hnc, hcm, hcs, htake⟩
  · have hx0 : xs = [] := List.eq_nil_of_length_eq_zero (by simpa using hown.1)
    subst hx0
    refine wpList_append_grows w hg s x t hop e i z size bytes h1 h2 h3 h4 h5 h6 h7 none 0 0 [] hs (fun _ => ⟨rfl, rfl⟩) (by simp) (fun b h => by cases h) ad m c news hx hn hc h1c (by omega) b1 b2 ?_
    intro v' w' r1 r2
    exact hK v' w' (own_mono r1 b3) (weak w' r2 _) (fun k hk => .inr (r1.lt k hk).1)
  · by_cases hroom : n + m ≤ cap
    · refine wpList_append_fits w hg s x t hop base e i size h1 h2 h4 g n cap xs hs hown ad m c news hx hn hc h1c hroom ?_
      intro w' r1 r2
      exact hK _ w' r1 r2 (fun k hk => .inl hk)
    · refine wpList_append_grows w hg s x t hop e i z size bytes h1 h2 h3 h4 h5 h6 h7 (some ⟨g, 0, none⟩) n cap xs hs (fun h => by cases h) hown.1 (fun b h j u hj => by cases h; exact hown.cells (g := g) rfl j u hj) ad m c news hx hn hc h1c (by omega) b1 b2 ?_
      intro v' w' r1 r2
      exact hK v' w' (own_mono r1 b3) (weak w' r2 _) (fun k hk => .inr (r1.lt k hk).1)
end Go.Proofs.YtfkmnmopkblopaaGreatDoor
