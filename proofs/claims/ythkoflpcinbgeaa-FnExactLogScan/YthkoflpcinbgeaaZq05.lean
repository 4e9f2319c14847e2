/- The model's look at a root, whole: l02Root; its bytes: l02RootBytes; EncodeRoot. errors.As at the one target that the program has (**formFault), of an error that is a chain of placed faults down to one form fault: Go's own text of errors.As and errors.as walked, the entries of reflectlite by closed facts. -/
import Derived.Test.YthkoflpcinbgeaaZq04
import Derived.Test.YthkoflpcinbgeaaRows
import Derived.Test.YthkoflpcinbgeaaZq01
import Derived.WalkLawsBesides
import Derived.LaidEql
import Derived.Stop.Asserts
import Derived.RowKitTokens
import Derived.Deep.LoopGhost
namespace Go.Proofs.Ythkoflpcinbgeaa
set_option linter.unusedVariables false
set_option linter.unusedSimpArgs false
open Go.RowKit

def lst (i : Nat) : Int := if i = 13 then 140 else i
def okAt (B : Int) (i : Nat) (x : Int) : Bool := ptrB x 2048 && (decide (x = 0) || decide (lst i < B))
def allR (s : Int) (pts : List Int) (n : Nat) : Bool := (List.range n).all fun i => okAt ((s + 511) / 512) i (pts.getD i 0)
def rightR (s : Int) (ds : List Int) (p q : Int) : Bool := (decide (0 ≤ s) && decide (s ≤ 262144)) && allR s (ds ++ [p, q]) 14
theorem allR_succ (s : Int) (pts : List Int) (n : Nat) : allR s pts (n + 1) = (allR s pts n && okAt ((s + 511) / 512) n (pts.getD n 0)) := by simp [allR, List.range_succ]
theorem allR_bad (s : Int) (pts : List Int) (n k : Nat) (hk : k < n) (h : okAt ((s + 511) / 512) k (pts.getD k 0) = false) : allR s pts n = false := by
  unfold allR
  rw [List.all_eq_false]
  exact ⟨k, by simpa using hk, by rw [h]; simp⟩

theorem okT (s : Int) (k : Nat) (z L : Int) (hp : ptrB z 2048 = true) (hL : lst k = L) (h : (z != 0) = false ∨ L < (s + 512 - 1) / 512) : okAt ((s + 511) / 512) k z = true := by
  unfold okAt
  rw [hp, hL]
  have e : s + 512 - 1 = s + 511 := by omega
  rw [e] at h
  rcases h with h | h
  · simp at h; simp [h]
  · simp [h]
theorem okT0 (s : Int) (k : Nat) (z : Int) (hp : ptrB z 2048 = true) (h : z = 0) : okAt ((s + 511) / 512) k z = true := by
  unfold okAt
  rw [hp]
  simp [h]
theorem okF (s : Int) (k : Nat) (z L : Int) (hL : lst k = L) (h : (z != 0) = true ∧ (s + 512 - 1) / 512 ≤ L) : okAt ((s + 511) / 512) k z = false := by
  unfold okAt
  have e : s + 512 - 1 = s + 511 := by omega
  rw [e] at h
  rw [hL]
  have h1 : ¬ z = 0 := by simpa using h.1
  have h2 : ¬ L < (s + 511) / 512 := by omega
  simp [h1, h2]
theorem lst_cases (k : Nat) : (((k : Int) == 12) = true ∧ ((k : Int) == 13) = false ∧ lst k = 12) ∨ (((k : Int) == 12) = false ∧ ((k : Int) == 13) = true ∧ lst k = 140) ∨ (((k : Int) == 12) = false ∧ ((k : Int) == 13) = false ∧ lst k = (k : Int)) := by
  by_cases h12 : k = 12
  · subst h12; exact .inl ⟨rfl, rfl, rfl⟩
  · by_cases h13 : k = 13
    · subst h13; exact .inr (.inl ⟨rfl, rfl, rfl⟩)
    · refine .inr (.inr ⟨by simp; omega, by simp; omega, ?_⟩)
      unfold lst
      rw [if_neg h13]

end Go.Proofs.Ythkoflpcinbgeaa

namespace Go.Proofs.Ythkoflpcinbgeaa
open Go.RowKit Go.Extern.Stop Go.Stop Go.Extern

/-- A chain of n placed faults, and below it a form fault with the code c; all its memory from block lo on. -/
def Flt (w : World) (lo : Nat) : Nat → Value → Int → Prop
  | 0, v, c => ∃ b, v = .iface 79 (.pointer (some ⟨b, 0, none⟩)) ∧ lo ≤ b ∧ w.cell? ⟨b, 0, none⟩ = some (.int .i64 c)
  | n + 1, v, c => ∃ b v', v = .iface 88 (.pointer (some ⟨b, 0, none⟩)) ∧ lo ≤ b ∧ w.cell? ⟨b, 1, none⟩ = some v' ∧ Flt w lo n v' c

theorem Flt.keep {w w' : World} {lo : Nat} (hk : ∀ b o v, lo ≤ b → w.cell? ⟨b, o, none⟩ = some v → w'.cell? ⟨b, o, none⟩ = some v) : ∀ {n : Nat} {v : Value} {c : Int}, Flt w lo n v c → Flt w' lo n v c
  | 0, _, _, ⟨b, h, hl, hc⟩ => ⟨b, h, hl, hk _ _ _ hl hc⟩
  | _ + 1, _, _, ⟨b, v', h, hl, hc, hr⟩ => ⟨b, v', h, hl, hk _ _ _ hl hc, Flt.keep hk hr⟩
theorem Flt.below {w w' : World} {lo n : Nat} {v : Value} {c : Int} (h : Flt w lo n v c) (hb : Below w.heap.size w w') : Flt w' lo n v c :=
  h.keep fun b o _ _ hc => (hb.cell (p := ⟨b, o, none⟩) (cell_lt hc)).trans hc
theorem Flt.mono {w : World} {lo lo' : Nat} (hl : lo' ≤ lo) : ∀ {n : Nat} {v : Value} {c : Int}, Flt w lo n v c → Flt w lo' n v c
  | 0, _, _, ⟨b, h, h1, hc⟩ => ⟨b, h, Nat.le_trans hl h1, hc⟩
  | _ + 1, _, _, ⟨b, v', h, h1, hc, hr⟩ => ⟨b, v', h, Nat.le_trans hl h1, hc, Flt.mono hl hr⟩
theorem Flt.iface {w : World} {lo : Nat} : ∀ {n : Nat} {v : Value} {c : Int}, Flt w lo n v c → ∃ t x, v = .iface t (.pointer (some x))
  | 0, _, _, ⟨_, h, _⟩ => ⟨_, _, h⟩
  | _ + 1, _, _, ⟨_, _, h, _⟩ => ⟨_, _, h⟩

/-! ### Closed facts on the entries of reflectlite at this program's types -/
theorem rl_kindE (w : World) : ((ReflectliteType.abiMethod fun t => (fun a : Nat => Value.int IntKind.u8 (a : Int)) <$> Rtype.kind t) #[.pointer (some ⟨0, 79, none⟩)]).run Try.prog w = .ok (.int .u8 22) w := by kernel_rfl
theorem rl_valueOfE (e : Addr) (w : World) : (ReflectliteValue.unpack (.iface 79 (.pointer (some e)))).run Try.prog w
    = .ok (.agg #[.pointer (some ⟨0, 79, none⟩), .pointer (some ⟨w.heap.size, 0, none⟩), .int .u64 150]) (w.alloc (.cells #[.pointer (some e)] 79)) := by kernel_rfl
/-! ### The entries that read or write memory -/
theorem rlm (z : Sem Value) (f : TypeId → Addr → Nat → Nat → Sem Value) (v : Value) :
    ReflectliteValue.method z f #[v] = (do match ← ReflectliteValue.parts v with | none => z | some (t, a, fl) => f t a fl (fl % 32)) := rfl
theorem rl_mk (p : Addr) (w : World) : (ReflectliteValue.mk 79 p ReflectliteValue.flagAddr).run Try.prog w = .ok (.agg #[.pointer (some ⟨0, 79, none⟩), .pointer (some p), .int .u64 406]) w := by kernel_rfl
theorem rls (v x : Value) : ReflectliteValue.set #[v, x] = (do
    let (some (dst, a, fl), some (src, b, _)) := (← ReflectliteValue.parts v, ← ReflectliteValue.parts x)
      | unsupported (.noEntry "extern/(internal/reflectlite.Value).Set.zeroValue")
    if fl / ReflectliteValue.flagAddr % 2 == 0 then unsupported (.noEntry "extern/(internal/reflectlite.Value).Set.unaddressable")
    let val ← loadVar src b
    if ← Rtype.directlyAssignable dst src then storeVar dst a val
    else if ← Rtype.implements dst src then
      if (← Rtype.kind src) == 20 then
        match val with
        | .nilIface => unsupported (.noEntry "extern/reflectlite: a nil value of one interface type handed on as a value of another")
        | _ => storeVar dst a val
      else storeVar dst a (.iface src val)
    else panicString ("reflectlite.Set: value of type " ++ (← Rtype.spelt src) ++ " is not assignable to type " ++ (← Rtype.spelt dst))
    pure (.tuple #[])) := rfl
theorem rl_partsEa (a : Addr) (w : World) : (ReflectliteValue.parts (.agg #[.pointer (some ⟨0, 79, none⟩), .pointer (some a), .int .u64 406])).run Try.prog w = .ok (some (79, a, 406)) w := by kernel_rfl
theorem rl_partsE (a : Addr) (w : World) : (ReflectliteValue.parts (.agg #[.pointer (some ⟨0, 79, none⟩), .pointer (some a), .int .u64 150])).run Try.prog w = .ok (some (79, a, 150)) w := by kernel_rfl
theorem rl_direct (w : World) : (Rtype.directlyAssignable 79 79).run Try.prog w = .ok true w := by kernel_rfl
theorem rl_set (ta b e : Addr) (old : Value) (W : World) (hb : W.cell? b = some (.pointer (some e))) (ht : W.cell? ta = some old) (hf : W.frozen? ta = false) :
    (ReflectliteValue.set #[.agg #[.pointer (some ⟨0, 79, none⟩), .pointer (some ta), .int .u64 406], .agg #[.pointer (some ⟨0, 79, none⟩), .pointer (some b), .int .u64 150]]).run Try.prog W
      = .ok (.tuple #[]) (W.setCell ta (.pointer (some e))) := by
  rw [rls]
  simp only [Sem.run_bind, rl_partsEa, rl_partsE, Result.andThen]
  simp [ReflectliteValue.flagAddr, loadVar, isAgg, underlying, Try.underlying79, hb, Result.andThen, rl_direct, storeVar, Value.cells, storeCells, Addr.add]
  rw [run_store Try.prog W ta _ _ (by rfl)]
  simp [ht, hf]

end Go.Proofs.Ythkoflpcinbgeaa
