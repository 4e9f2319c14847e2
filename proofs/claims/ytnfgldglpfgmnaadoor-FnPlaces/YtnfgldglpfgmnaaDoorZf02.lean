/- errors.as, errors.As and codeOf walked at a chain of faults: the code of the form fault at its end. What the listed variables give a walk, and a world that meets the condition. The blocks of a tree, mathematics: what the program's walk tells, and what the model takes apart. -/
import Derived.Test.YtnfgldglpfgmnaaDoorZf01
import Derived.ProofKit
import Derived.OpenShut
import Derived.ShutString
import Derived.ChangeOld
import Derived.Below
import Derived.ChangeSame
import Derived.ChangeVars
import Derived.JoinedOf
import Derived.LaidLaws
import Derived.LaidHandle
import Derived.Stop.Joined
namespace Go.Proofs.YtnfgldglpfgmnaaDoor
open Go.RowKit Go.Extern.Stop Go.Stop Go.Extern

theorem hit_after {w w' : World} {bt e : Nat} {c : Int} (ht : w.cell? ⟨bt, 0, none⟩ = some (.pointer none)) (he : w.cell? ⟨e, 0, none⟩ = some (.int .i64 c))
    (hb : Below w.heap.size (w.setCell ⟨bt, 0, none⟩ (.pointer (some ⟨e, 0, none⟩))) w') :
    w'.cell? ⟨bt, 0, none⟩ = some (.pointer (some ⟨e, 0, none⟩)) ∧ w'.cell? ⟨e, 0, none⟩ = some (.int .i64 c) ∧ w.grownBy w' (some bt) := by
  have hne : (⟨bt, 0, none⟩ : Addr) ≠ ⟨e, 0, none⟩ := by
    intro h
    rw [h, he] at ht
    simp at ht
  refine ⟨?_, ?_, ?_⟩
  · rw [hb.cell (p := ⟨bt, 0, none⟩) (cell_lt ht)]
    exact World.cell?_setCell_same _ _ _ ht
  · rw [hb.cell (p := ⟨e, 0, none⟩) (cell_lt he), World.cell?_setCell_other _ _ _ _ hne]
    exact he
  · refine ⟨hb.os, hb.tape, hb.output, Nat.le_trans (by simp) hb.size, fun k hk hn => ?_⟩
    rw [hb.block k hk]
    exact Below.heap_setCell w _ _ k (fun h => hn (by rw [h]))
theorem grownBy_pre {B : Nat} {w w1 w' : World} {bt : Nat} (hb : Below B w w1) (hB : w.heap.size ≤ B) (hg : w1.grownBy w' (some bt)) : w.grownBy w' (some bt) :=
  ⟨hg.os.trans hb.os, hg.tape.trans hb.tape, hg.output.trans hb.output, Nat.le_trans hb.size hg.size, fun k hk hn => (hg.block k (Nat.lt_of_lt_of_le hk hb.size) hn).trans (hb.block k (Nat.lt_of_lt_of_le hk hB))⟩

set_option maxRecDepth 100000 in
set_option maxHeartbeats 2000000 in
theorem as_any (n : Nat) (v tgt : Value) (c : Int) (lo bt : Nat) (a : Addr) (w : World) (hv : Flt w lo n v c)
    (ha : w.cell? a = some (.pointer (some ⟨bt, 0, none⟩))) (ht : w.cell? ⟨bt, 0, none⟩ = some (.pointer none)) (hf : w.frozen? ⟨bt, 0, none⟩ = false) :
    Calls Tryd.prog 83 #[v, tgt, .agg #[.pointer (some ⟨1, 106, none⟩), .pointer (some a), .int .u64 150], .iface 175 (.agg #[.pointer (some ⟨1, 98, none⟩)])] w
      fun ev w' => ev = .returned (.bool true) ∧ ∃ e, w'.cell? ⟨bt, 0, none⟩ = some (.pointer (some ⟨e, 0, none⟩)) ∧ w'.cell? ⟨e, 0, none⟩ = some (.int .i64 c) ∧ w.grownBy w' (some bt) := by
  have hal := cell_lt ha
  have htl : bt < w.heap.size := cell_lt ht
  have h125 := @run_callFunc_extern Tryd.prog 101 _ ReflectliteType.typeOf Tryd.func101 (by kernel_rfl) (by kernel_rfl) (by kernel_rfl) (by kernel_rfl)
  have h152 := @run_callFunc_extern Tryd.prog 134 _ (ReflectliteType.relation "AssignableTo" ReflectliteType.assignableTo) Tryd.func134 (by kernel_rfl) (by kernel_rfl) (by kernel_rfl) (by kernel_rfl)
  have h126 := @run_callFunc_extern Tryd.prog 102 _ (ReflectliteValue.method (ReflectliteValue.valueError "reflectlite.Value.Elem" 0) ReflectliteValue.elem) Tryd.func102 (by kernel_rfl) (by kernel_rfl) (by kernel_rfl) (by kernel_rfl)
  have h127 := @run_callFunc_extern Tryd.prog 103 _ ReflectliteValue.set Tryd.func103 (by kernel_rfl) (by kernel_rfl) (by kernel_rfl) (by kernel_rfl)
  have h116 := @run_callFunc_extern Tryd.prog 80 _ (fun args => ReflectliteValue.unpack (args.getD 0 (.tuple #[]))) Tryd.func80 (by kernel_rfl) (by kernel_rfl) (by kernel_rfl) (by kernel_rfl)
  have tE := rl_typeOfE
  have tP := rl_typeOfP
  have mA := rl_methodAssignableTo
  have aE := rl_assignableE
  have aP := rl_assignableP
  have vE := rl_valueOfE
  have nA := rl_noAs
  have hU := rl_hasUnwrap
  have mU := rl_methodUnwrap
  go_enter Tryd.func83, Tryd.ntmps83
  go_wp2
  go_loopg [0] n (fun k u wr => wr = w.alloc (.cells #[.pointer (some ⟨1, 106, none⟩), .pointer (some a), .int .u64 150] 148) ∧ Flt w lo k u c)
  case atStart => exact ⟨rfl, hv⟩
  case round =>
    obtain ⟨rfl, hk⟩ := hrel
    cases gk with
    | zero =>
      obtain ⟨b, rfl, hl, hc⟩ := hk
      have el := rl_elemV a ⟨bt, 0, none⟩ (w.alloc (.cells #[.pointer (some ⟨1, 106, none⟩), .pointer (some a), .int .u64 150] 148)) (by rw [World.cell?_alloc_lt _ _ a hal]; exact ha)
      have st := rl_set ⟨bt, 0, none⟩ ⟨w.heap.size + 1, 0, none⟩ ⟨b, 0, none⟩ (.pointer none) ((w.alloc (.cells #[.pointer (some ⟨1, 106, none⟩), .pointer (some a), .int .u64 150] 148)).alloc (.cells #[.pointer (some ⟨b, 0, none⟩)] 98))
        (by rw [World.cell?_alloc_at _ _ _ _ (by simp)]; rfl)
        (by rw [World.cell?_alloc_lt _ _ ⟨bt, 0, none⟩ (by simp; omega), World.cell?_alloc_lt _ _ ⟨bt, 0, none⟩ htl]; exact ht)
        (by rw [World.frozen?_alloc_old _ _ ⟨bt, 0, none⟩ (by simp; omega), World.frozen?_alloc_old _ _ ⟨bt, 0, none⟩ (Nat.ne_of_lt htl)]; exact hf)
      have HC : Hid (w.cell? ⟨b, 0, none⟩ = some (.int .i64 c) ∧ w.cell? ⟨bt, 0, none⟩ = some (.pointer none)) := ⟨hc, ht⟩
      clear hc hv ha ht hf
      go_wp2
      go_ret
      exact ⟨rfl, b, hit_after HC.out.2 HC.out.1 (((Below.refl _ _).alloc (by simp) _).alloc (by simp) _)⟩
    | succ m =>
      obtain ⟨b, v', rfl, hl, hc, hr⟩ := hk
      obtain ⟨t', x', rfl⟩ := hr.iface
      have HR : Hid (Flt w lo m (.iface t' (.pointer (some x'))) c) := hr
      have hbl : b < w.heap.size := cell_lt hc
      clear hr hv
      go_wp2_with (go_at_call 132; refine (unwrap_any b (.iface t' (.pointer (some x'))) _ (by rw [World.cell?_alloc_lt _ _ ⟨b, 1, none⟩ hbl]; exact hc)).mono ?_; rintro e w' ⟨rfl, rfl⟩)
      go_roundg m
      case measure => omega
      case rel => exact ⟨rfl, HR.out⟩

/-- The variable that errors.As looks at, as the program's text lays it. -/
def ErrT (w : World) : Prop := w.cell? ⟨0, 0, none⟩ = some (.iface 175 (.agg #[.pointer (some ⟨1, 61, none⟩)]))
theorem ErrT.below {w w' : World} (h : ErrT w) (hb : Below w.heap.size w w') : ErrT w' := (hb.cell (p := ⟨0, 0, none⟩) (cell_lt h)).trans h

set_option maxRecDepth 100000 in
set_option maxHeartbeats 2000000 in
theorem As_any (n : Nat) (v : Value) (c : Int) (lo bt : Nat) (w : World) (hv : Flt w lo n v c) (hg : ErrT w)
    (ht : w.cell? ⟨bt, 0, none⟩ = some (.pointer none)) (hf : w.frozen? ⟨bt, 0, none⟩ = false) :
    Calls Tryd.prog 49 #[v, .iface 106 (.pointer (some ⟨bt, 0, none⟩))] w
      fun ev w' => ev = .returned (.bool true) ∧ ∃ e, w'.cell? ⟨bt, 0, none⟩ = some (.pointer (some ⟨e, 0, none⟩)) ∧ w'.cell? ⟨e, 0, none⟩ = some (.int .i64 c) ∧ w.grownBy w' (some bt) := by
  obtain ⟨t', x', rfl⟩ := hv.iface
  have htl : bt < w.heap.size := cell_lt ht
  have hgl : 0 < w.heap.size := cell_lt hg
  have h116 := @run_callFunc_extern Tryd.prog 80 _ (fun args => ReflectliteValue.unpack (args.getD 0 (.tuple #[]))) Tryd.func80 (by kernel_rfl) (by kernel_rfl) (by kernel_rfl) (by kernel_rfl)
  have h117 := @run_callFunc_extern Tryd.prog 81 _ (ReflectliteValue.methodAny (ReflectliteValue.valueError "reflectlite.Value.Type" 0) (fun t _ _ _ => ReflectliteType.toType t)) Tryd.func81 (by kernel_rfl) (by kernel_rfl) (by kernel_rfl) (by kernel_rfl)
  have h118 := @run_callFunc_extern Tryd.prog 82 _ (ReflectliteValue.method (ReflectliteValue.valueError "reflectlite.Value.IsNil" 0) ReflectliteValue.isNil) Tryd.func82 (by kernel_rfl) (by kernel_rfl) (by kernel_rfl) (by kernel_rfl)
  have h142 := @run_callFunc_extern Tryd.prog 123 _ (ReflectliteType.abiMethod fun t => do pure (.int .u8 (← Rtype.kind t))) Tryd.func123 (by kernel_rfl) (by kernel_rfl) (by kernel_rfl) (by kernel_rfl)
  have h154 := @run_callFunc_extern Tryd.prog 136 _ (ReflectliteType.method ReflectliteType.elem) Tryd.func136 (by kernel_rfl) (by kernel_rfl) (by kernel_rfl) (by kernel_rfl)
  have h155 := @run_callFunc_extern Tryd.prog 137 _ (ReflectliteType.relation "Implements" ReflectliteType.implements_) Tryd.func137 (by kernel_rfl) (by kernel_rfl) (by kernel_rfl) (by kernel_rfl)
  have f6 := rl_valueOfT
  have f7 := rl_type
  have mK := rl_methodKind
  have mE := rl_methodElem
  have mI := rl_methodImplements
  have kT := rl_kindT
  have kE := rl_kindE
  have eT := rl_elemT
  have iE := rl_implementsE
  have n8 := rl_isNil ⟨w.heap.size, 0, none⟩ ⟨bt, 0, none⟩ ((w.alloc (.cells #[.pointer (some ⟨bt, 0, none⟩)] 106)).alloc (.cells #[.pointer (some ⟨1, 106, none⟩), .pointer (some ⟨w.heap.size, 0, none⟩), .int .u64 150] 148)) (by simp)
  have hg2 : ((w.alloc (.cells #[.pointer (some ⟨bt, 0, none⟩)] 106)).alloc (.cells #[.pointer (some ⟨1, 106, none⟩), .pointer (some ⟨w.heap.size, 0, none⟩), .int .u64 150] 148)).cell? ⟨0, 0, none⟩ = some (.iface 175 (.agg #[.pointer (some ⟨1, 61, none⟩)])) := by
    rw [World.cell?_alloc_lt _ _ ⟨0, 0, none⟩ (by simp <;> omega), World.cell?_alloc_lt _ _ ⟨0, 0, none⟩ hgl]; exact hg
  have hv2 : Hid (Flt ((w.alloc (.cells #[.pointer (some ⟨bt, 0, none⟩)] 106)).alloc (.cells #[.pointer (some ⟨1, 106, none⟩), .pointer (some ⟨w.heap.size, 0, none⟩), .int .u64 150] 148)) lo n (.iface t' (.pointer (some x'))) c) :=
    hv.below (((Below.refl _ _).alloc (Nat.le_refl _) _).alloc (by simp) _)
  clear hg
  go_enter Tryd.func49, Tryd.ntmps49
  go_wp2_with (go_at_call 83; refine (as_any n _ _ c lo bt ⟨w.heap.size, 0, none⟩ _ hv2.out (by simp) (by rw [World.cell?_alloc_lt _ _ ⟨bt, 0, none⟩ (by simp; omega), World.cell?_alloc_lt _ _ ⟨bt, 0, none⟩ htl]; exact ht) (by rw [World.frozen?_alloc_old _ _ ⟨bt, 0, none⟩ (by simp; omega), World.frozen?_alloc_old _ _ ⟨bt, 0, none⟩ (Nat.ne_of_lt htl)]; exact hf)).mono ?_; rintro e w' ⟨rfl, e0, r1, r2, r3⟩)
  go_ret
  exact ⟨rfl, e0, r1, r2, grownBy_pre (((Below.refl w.heap.size w).alloc (Nat.le_refl _) _).alloc (by simp) _) (Nat.le_refl _) r3⟩

theorem codeOf_nil (w : World) : Calls Tryd.prog 28 #[.nilIface] w fun e w' => e = .returned (.int .i64 0) ∧ w' = w := by
  go_enter Tryd.func28, Tryd.ntmps28
  go_wp2
  go_ret
  exact ⟨rfl, rfl⟩

set_option maxHeartbeats 1000000 in
theorem codeOf_any (n : Nat) (v : Value) (c : Int) (lo : Nat) (w : World) (hv : Flt w lo n v c) (hg : ErrT w) :
    Calls Tryd.prog 28 #[v] w fun e w' => e = .returned (.int .i64 c) ∧ Below w.heap.size w w' := by
  obtain ⟨t', x', rfl⟩ := hv.iface
  have hb0 : Below w.heap.size w (w.alloc (.cells #[.pointer none] 98)) := (Below.refl _ _).alloc (Nat.le_refl _) _
  have HV : Hid (Flt (w.alloc (.cells #[.pointer none] 98)) lo n (.iface t' (.pointer (some x'))) c ∧ ErrT (w.alloc (.cells #[.pointer none] 98))) := ⟨hv.below hb0, hg.below hb0⟩
  clear hv hg
  go_enter Tryd.func28, Tryd.ntmps28
  go_wp2_with (go_at_call 49; refine (As_any n _ c lo w.heap.size _ HV.out.1 HV.out.2 (by simp) (by simp)).mono ?_; rintro e w' ⟨rfl, e0, r1, r2, r3⟩)
  go_ret
  refine ⟨rfl, ?_⟩
  exact hb0.grown r3 (by simp) (fun k h => by cases h; exact Nat.le_refl _)
end Go.Proofs.YtnfgldglpfgmnaaDoor

namespace Go.Proofs.YtnfgldglpfgmnaaDoor
open Go.ChangeShapes Go.WideShapes Go.RowKit

theorem own : ownKnob Tryd.prog.godebug = none := by kernel_rfl
theorem laidOut : laidOutB Tryd.prog = true := by kernel_rfl
theorem d_et : Tryd.prog.globalNamed "errors.errorType" = some 0 := by kernel_rfl
theorem d_rt : (Tryd.prog.cutTypes.find? (·.1 == "internal/reflectlite.rtype")).map (·.2) = some 175 := by kernel_rfl
theorem d_oneRow : ((List.range 221).filter fun t => Tryd.prog.rowNamed t [101, 114, 114, 111, 114]) = [61] := by kernel_rfl
theorem d_size : Tryd.prog.types.size = 221 := by kernel_rfl

/-- The variable's one cell, out of a list that has it. -/
theorem errT_of {L : List (String × DataW Unit)} {W : World} (hm : ("errors.errorType", Rows.laid_errors_errorType) ∈ L) (h : handlesMet Tryd.prog L W) : ErrT W := by
  obtain ⟨name, u, ty, e1, e2, e3, e4, e5⟩ := h _ hm
  have en : name = [101, 114, 114, 111, 114] := (Option.some.inj e1).symm
  subst en
  obtain rfl := Option.some.inj (d_rt.symm.trans e2)
  have hm : ty ∈ (List.range 221).filter fun t => Tryd.prog.rowNamed t [101, 114, 114, 111, 114] := List.mem_filter.2 ⟨List.mem_range.2 (by rw [← d_size]; exact e3), e4⟩
  rw [d_oneRow] at hm
  obtain rfl := List.mem_singleton.1 hm
  have hh : typeHandle Tryd.prog 61 = .pointer (some ⟨1, 61, none⟩) := by kernel_rfl
  rw [hh] at e5
  have hc := World.var?_cell d_et e5 0
  unfold ErrT
  simpa using hc

/-- A world that meets the condition: the settled one, the variable's cell laid. -/
noncomputable def laidWorld (os : Os) : World :=
  let w0 := World.holding Tryd.prog os ⟨#[], #[], []⟩
  { w0 with heap := w0.heap.modify 0 fun
      | .cells _ t frozen => .cells #[.iface 175 (.agg #[.pointer (some ⟨1, 61, none⟩)])] t frozen
      | o => o }
end Go.Proofs.YtnfgldglpfgmnaaDoor

namespace Go.Proofs.YtnfgldglpfgmnaaDoor
set_option linter.unusedVariables false
set_option linter.unusedSimpArgs false

/-- A block that hangs in a tree: its level, its rank there, its number. -/
abbrev HG := Nat × Nat × Int
/-- What is told, and whether a fault ended it. -/
abbrev TL := List HG × Bool
def thenT (a b : TL) : TL := if a.2 = true then a else (a.1 ++ b.1, b.2)
def allT : List TL → TL
  | [] => ([], false)
  | a :: L => thenT a (allT L)
theorem allT_ok : ∀ (L : List TL), (∀ a ∈ L, a.2 = false) → allT L = (L.flatMap (·.1), false)
  | [], _ => rfl
  | a :: L, h => by
    have ha := h a List.mem_cons_self
    have hL := allT_ok L (fun x hx => h x (List.mem_cons_of_mem _ hx))
    unfold allT thenT
    rw [ha, hL]
    simp
theorem allT_bad : ∀ (L : List TL), (allT L).2 = false → ∀ a ∈ L, a.2 = false
  | [], _, a, ha => by cases ha
  | b :: L, h, a, ha => by
    unfold allT thenT at h
    cases hb : b.2 with
    | true => rw [hb] at h; simp [hb] at h
    | false =>
      rw [hb] at h
      simp at h
      rcases List.mem_cons.1 ha with rfl | ha
      · exact hb
      · exact allT_bad L h a ha
theorem thenT_ok {a b : TL} (ha : a.2 = false) (hb : b.2 = false) : thenT a b = (a.1 ++ b.1, false) := by unfold thenT; rw [ha, hb]; simp
theorem thenT_bad {a b : TL} (h : (thenT a b).2 = false) : a.2 = false ∧ b.2 = false := by
  unfold thenT at h
  cases ha : a.2 with
  | true => rw [ha] at h; simp [ha] at h
  | false => rw [ha] at h; simp at h; exact ⟨rfl, h⟩
theorem flat_same {α β : Type} : ∀ (L : List α) (f g : α → List β), (∀ x ∈ L, f x = g x) → L.flatMap f = L.flatMap g
  | [], _, _, _ => rfl
  | a :: L, f, g, h => by rw [List.flatMap_cons, List.flatMap_cons, h a List.mem_cons_self, flat_same L f g (fun x hx => h x (List.mem_cons_of_mem _ hx))]
/-- A hole, or a block of a device of n blocks. -/
def goodP (n : Nat) (p : Int) : Bool := p == 0 || (decide (2 ≤ p) && decide (p < (n : Int)))
theorem good_zero (n : Nat) : goodP n 0 = true := rfl
section
variable (cnt n : Nat) (W : Int → Nat → Int)
def tell0 (r : Nat) (p : Int) : TL := if cnt ≤ r ∨ p = 0 then ([], false) else if goodP n p = false then ([], true) else ([(0, r, p)], false)
def tell1 (r : Nat) (p : Int) : TL := if cnt ≤ 12 + r * 128 ∨ p = 0 then ([], false) else if goodP n p = false then ([], true) else thenT ([(1, r, p)], false) (allT ((List.range 128).map fun k => tell0 cnt n (12 + r * 128 + k) (W p k)))
def tell2 (p : Int) : TL := if cnt ≤ 140 ∨ p = 0 then ([], false) else if goodP n p = false then ([], true) else thenT ([(2, 0, p)], false) (allT ((List.range 128).map fun k => tell1 cnt n W (1 + k) (W p k)))
/-- All that the walk tells of a root. -/
def tellR (D : Nat → Int) (S X : Int) : TL := thenT (allT ((List.range 12).map fun i => tell0 cnt n i (D i))) (thenT (tell1 cnt n W 0 S) (tell2 cnt n W X))
/-- The words of a pointer block; a hole has zeros. -/
def hwP (p : Int) (k : Nat) : Int := if p = 0 then 0 else W p k
/-- The number of data block i. -/
def datP (D : Nat → Int) (S X : Int) (i : Nat) : Int := if i < 12 then D i else if i < 140 then hwP W S (i - 12) else hwP W (hwP W X ((i - 140) / 128)) ((i - 140) % 128)
/-- Whether the model takes the tree apart. -/
def apartP (D : Nat → Int) (S X : Int) : Prop := (∀ i, i < 12 → goodP n (D i) = true) ∧ goodP n S = true ∧ goodP n X = true ∧ (∀ k, k < 128 → 140 + 128 * k < cnt → goodP n (hwP W X k) = true) ∧ ∀ i, i < cnt → goodP n (datP W D S X i) = true
/-- Data blocks in a row. -/
def segP (b m : Nat) (f : Nat → Int) : List HG := (List.range m).flatMap fun k => if cnt ≤ b + k ∨ f k = 0 then [] else [(0, b + k, f k)]
def hd1P (r : Nat) (p : Int) : List HG := if cnt ≤ 12 + r * 128 ∨ p = 0 then [] else [(1, r, p)]
def hd2P (p : Int) : List HG := if cnt ≤ 140 ∨ p = 0 then [] else [(2, 0, p)]
variable {cnt n W}
theorem tell0_ok {r : Nat} {p : Int} (h : r < cnt → goodP n p = true) : tell0 cnt n r p = (if cnt ≤ r ∨ p = 0 then [] else [(0, r, p)], false) := by
  unfold tell0
  by_cases h0 : cnt ≤ r ∨ p = 0
  · rw [if_pos h0, if_pos h0]
  · rw [if_neg h0, if_neg h0, if_neg (by rw [h (by omega)]; decide)]
theorem tell0_bad {r : Nat} {p : Int} (h : (tell0 cnt n r p).2 = false) (hr : r < cnt) : goodP n p = true := by
  unfold tell0 at h
  by_cases hp : p = 0
  · rw [hp]; rfl
  · rw [if_neg (by omega)] at h
    cases hg : goodP n p with
    | true => rfl
    | false => rw [if_pos hg] at h; cases h
theorem seg_ok (b m : Nat) (f : Nat → Int) (h : ∀ k, k < m → b + k < cnt → goodP n (f k) = true) : allT ((List.range m).map fun k => tell0 cnt n (b + k) (f k)) = (segP cnt b m f, false) := by
  rw [allT_ok _ (fun a ha => by
    obtain ⟨k, hk, rfl⟩ := List.mem_map.1 ha
    rw [tell0_ok (h k (List.mem_range.1 hk))])]
  refine congrArg (fun x => (x, false)) ?_
  unfold segP
  rw [List.flatMap_map]
  refine flat_same _ _ _ (fun k hk => ?_)
  rw [tell0_ok (h k (List.mem_range.1 hk))]
theorem seg_bad {b m : Nat} {f : Nat → Int} (h : (allT ((List.range m).map fun k => tell0 cnt n (b + k) (f k))).2 = false) : ∀ k, k < m → b + k < cnt → goodP n (f k) = true := fun k hk hb =>
  tell0_bad (allT_bad _ h _ (List.mem_map.2 ⟨k, List.mem_range.2 hk, rfl⟩)) hb
theorem seg_none {b m : Nat} {f : Nat → Int} (h : cnt ≤ b ∨ ∀ k, f k = 0) : segP cnt b m f = [] := by
  unfold segP
  rw [List.flatMap_eq_nil_iff]
  intro k _
  rw [if_pos (h.elim (fun h => .inl (by omega)) (fun h => .inr (h k)))]
theorem hwP_zero (k : Nat) : hwP W 0 k = 0 := by unfold hwP; rw [if_pos rfl]
theorem hwP_some {p : Int} (h : p ≠ 0) (k : Nat) : hwP W p k = W p k := by unfold hwP; rw [if_neg h]
/-- Whether a pointer block and what hangs below it are told without fault. -/
def ok1P (cnt n : Nat) (W : Int → Nat → Int) (r : Nat) (p : Int) : Prop := (12 + r * 128 < cnt → goodP n p = true) ∧ ∀ k, k < 128 → 12 + r * 128 + k < cnt → goodP n (hwP W p k) = true
theorem tell1_ok {r : Nat} {p : Int} (h : ok1P cnt n W r p) : tell1 cnt n W r p = (hd1P cnt r p ++ segP cnt (12 + r * 128) 128 (hwP W p), false) := by
  unfold tell1 hd1P
  by_cases h0 : cnt ≤ 12 + r * 128 ∨ p = 0
  · rw [if_pos h0, if_pos h0, seg_none (h0.elim .inl (fun e => .inr (fun k => by rw [e]; exact hwP_zero k)))]
    rfl
  · have hp : p ≠ 0 := fun e => h0 (.inr e)
    rw [if_neg h0, if_neg h0, if_neg (by rw [h.1 (by omega)]; decide)]
    have e := seg_ok (n := n) (cnt := cnt) (12 + r * 128) 128 (W p) (fun k hk hb => by rw [← hwP_some (W := W) hp k]; exact h.2 k hk hb)
    rw [e, thenT_ok rfl rfl]
    have : hwP W p = W p := funext (hwP_some hp)
    rw [this]
theorem tell1_bad {r : Nat} {p : Int} (h : (tell1 cnt n W r p).2 = false) : ok1P cnt n W r p := by
  unfold tell1 at h
  by_cases hp : p = 0
  · subst hp
    exact ⟨fun _ => rfl, fun k _ _ => by rw [hwP_zero]; rfl⟩
  · by_cases hc : cnt ≤ 12 + r * 128
    · exact ⟨fun h => absurd h (by omega), fun k _ h => absurd h (by omega)⟩
    · rw [if_neg (by omega)] at h
      cases hg : goodP n p with
      | false => rw [if_pos hg] at h; cases h
      | true =>
        rw [if_neg (by rw [hg]; decide)] at h
        exact ⟨fun _ => hg, fun k hk hb => by rw [hwP_some hp]; exact seg_bad (thenT_bad h).2 k hk hb⟩
def ok2P (cnt n : Nat) (W : Int → Nat → Int) (p : Int) : Prop := (140 < cnt → goodP n p = true) ∧ ∀ k, k < 128 → ok1P cnt n W (1 + k) (hwP W p k)
theorem tell2_ok {p : Int} (h : ok2P cnt n W p) : tell2 cnt n W p = (hd2P cnt p ++ (List.range 128).flatMap (fun k => hd1P cnt (1 + k) (hwP W p k) ++ segP cnt (12 + (1 + k) * 128) 128 (hwP W (hwP W p k))), false) := by
  unfold tell2 hd2P
  by_cases h0 : cnt ≤ 140 ∨ p = 0
  · rw [if_pos h0, if_pos h0]
    have e : (List.range 128).flatMap (fun k => hd1P cnt (1 + k) (hwP W p k) ++ segP cnt (12 + (1 + k) * 128) 128 (hwP W (hwP W p k))) = [] := by
      rw [List.flatMap_eq_nil_iff]
      intro k _
      have hz : cnt ≤ 12 + (1 + k) * 128 ∨ hwP W p k = 0 := h0.elim (fun h => .inl (by omega)) (fun e => .inr (by rw [e]; exact hwP_zero k))
      unfold hd1P
      rw [if_pos hz, seg_none (hz.elim .inl (fun e => .inr (fun j => by rw [e]; exact hwP_zero j)))]
      rfl
    rw [e]
    rfl
  · have hp : p ≠ 0 := fun e => h0 (.inr e)
    rw [if_neg h0, if_neg h0, if_neg (by rw [h.1 (by omega)]; decide)]
    have hk : ∀ k, k < 128 → tell1 cnt n W (1 + k) (W p k) = (hd1P cnt (1 + k) (hwP W p k) ++ segP cnt (12 + (1 + k) * 128) 128 (hwP W (hwP W p k)), false) := fun k hk => by
      have := tell1_ok (h.2 k hk)
      rw [hwP_some hp k] at this ⊢
      exact this
    rw [allT_ok _ (fun a ha => by
      obtain ⟨k, hk2, rfl⟩ := List.mem_map.1 ha
      rw [hk k (List.mem_range.1 hk2)]), thenT_ok rfl rfl, List.flatMap_map]
    refine congrArg (fun x => (_ ++ x, false)) (flat_same _ _ _ (fun k hk2 => ?_))
    rw [hk k (List.mem_range.1 hk2)]
theorem tell2_bad {p : Int} (h : (tell2 cnt n W p).2 = false) : ok2P cnt n W p := by
  unfold tell2 at h
  by_cases hp : p = 0
  · subst hp
    exact ⟨fun _ => rfl, fun k _ => ⟨fun _ => by rw [hwP_zero]; rfl, fun j _ _ => by rw [hwP_zero, hwP_zero]; rfl⟩⟩
  · by_cases hc : cnt ≤ 140
    · exact ⟨fun h => absurd h (by omega), fun k _ => ⟨fun h => absurd h (by omega), fun j _ h => absurd h (by omega)⟩⟩
    · rw [if_neg (by omega)] at h
      cases hg : goodP n p with
      | false => rw [if_pos hg] at h; cases h
      | true =>
        rw [if_neg (by rw [hg]; decide)] at h
        exact ⟨fun _ => hg, fun k hk => by rw [hwP_some hp]; exact tell1_bad (allT_bad _ (thenT_bad h).2 _ (List.mem_map.2 ⟨k, List.mem_range.2 hk, rfl⟩))⟩
/-- A root is right: what its size has no need of is a hole. -/
structure RootP (cnt : Nat) (D : Nat → Int) (S X : Int) : Prop where
  d : ∀ i, cnt ≤ i → D i = 0
  s : cnt ≤ 12 → S = 0
  x : cnt ≤ 140 → X = 0
  c : cnt ≤ 512
/-- What the walk tells where the model takes the tree apart. -/
def listR (cnt : Nat) (W : Int → Nat → Int) (D : Nat → Int) (S X : Int) : List HG := segP cnt 0 12 D ++ (hd1P cnt 0 S ++ segP cnt 12 128 (hwP W S) ++ (hd2P cnt X ++ (List.range 128).flatMap (fun k => hd1P cnt (1 + k) (hwP W X k) ++ segP cnt (12 + (1 + k) * 128) 128 (hwP W (hwP W X k)))))
theorem tellR_ok {D : Nat → Int} {S X : Int} (h : apartP cnt n W D S X) : tellR cnt n W D S X = (listR cnt W D S X, false) := by
  obtain ⟨hD, hS, hX, hO, hd⟩ := h
  have e0 : allT ((List.range 12).map fun i => tell0 cnt n i (D i)) = (segP cnt 0 12 D, false) := by
    have := seg_ok (cnt := cnt) (n := n) 0 12 D (fun k hk _ => hD k hk)
    simpa using this
  have e1 : ok1P cnt n W 0 S := ⟨fun _ => hS, fun k hk hb => by
    have := hd (12 + k) (by omega)
    unfold datP at this
    rw [if_neg (by omega), if_pos (by omega), Nat.add_sub_cancel_left] at this
    exact this⟩
  have e2 : ok2P cnt n W X := ⟨fun _ => hX, fun k hk => ⟨fun hc => hO k hk (by omega), fun j hj hb => by
    have := hd (140 + 128 * k + j) (by omega)
    unfold datP at this
    rw [if_neg (by omega), if_neg (by omega), show (140 + 128 * k + j - 140) / 128 = k by omega, show (140 + 128 * k + j - 140) % 128 = j by omega] at this
    exact this⟩⟩
  unfold tellR
  rw [e0, tell1_ok e1, tell2_ok e2, thenT_ok rfl rfl, thenT_ok rfl rfl]
  rfl
theorem tellR_bad {D : Nat → Int} {S X : Int} (hR : RootP cnt D S X) (h : (tellR cnt n W D S X).2 = false) : apartP cnt n W D S X := by
  have h1 := thenT_bad h
  have h2 := thenT_bad h1.2
  have o0 : ∀ k, k < 12 → 0 + k < cnt → goodP n (D k) = true := seg_bad (by simpa using h1.1)
  have o1 := tell1_bad h2.1
  have o2 := tell2_bad h2.2
  refine ⟨fun i hi => ?_, ?_, ?_, fun k hk hc => (o2.2 k hk).1 (by omega), fun i hi => ?_⟩
  · by_cases hc : i < cnt
    · exact o0 i hi (by omega)
    · rw [hR.d i (by omega)]; rfl
  · by_cases hc : 12 < cnt
    · exact o1.1 (by omega)
    · rw [hR.s (by omega)]; rfl
  · by_cases hc : 140 < cnt
    · exact o2.1 hc
    · rw [hR.x (by omega)]; rfl
  · unfold datP
    by_cases h12 : i < 12
    · rw [if_pos h12]; exact o0 i h12 (by omega)
    · rw [if_neg h12]
      by_cases h140 : i < 140
      · rw [if_pos h140]; exact o1.2 (i - 12) (by omega) (by omega)
      · rw [if_neg h140]
        have hc := hR.c
        exact (o2.2 ((i - 140) / 128) (by omega)).2 ((i - 140) % 128) (by omega) (by omega)
end
end Go.Proofs.YtnfgldglpfgmnaaDoor
