/- errors.as, errors.As and codeOf walked at a chain of faults: the code of the form fault at its end. What the listed variables give a walk, and a world that meets the condition. What is reached from the root of a state: mathematics. Plain facts on lists, marks and worlds that the laws' helpers share. -/
import Derived.Test.YtplieplmhdfndaaGreatDoorZg01
import Derived.ProofKit
import Derived.OpenShut
import Derived.ShutString
import Derived.ChangeOld
import Derived.Below
import Derived.ChangeSame
import Derived.ChangeVars
import Derived.JoinedOf
import Derived.LaidLaws
import Derived.LaidHandle
import Derived.Stop.Joined
import Derived.Test.YtplieplmhdfndaaGreatDoorRows
import Derived.WalkLawsBesides
namespace Go.Proofs.YtplieplmhdfndaaGreatDoor
open Go.RowKit Go.Extern.Stop Go.Stop Go.Extern

theorem hit_after {w w' : World} {bt e : Nat} {c : Int} (ht : w.cell? ⟨bt, 0, none⟩ = some (.pointer none)) (he : w.cell? ⟨e, 0, none⟩ = some (.int .i64 c))
    (hb : Below w.heap.size (w.setCell ⟨bt, 0, none⟩ (.pointer (some ⟨e, 0, none⟩))) w') :
    w'.cell? ⟨bt, 0, none⟩ = some (.pointer (some ⟨e, 0, none⟩)) ∧ w'.cell? ⟨e, 0, none⟩ = some (.int .i64 c) ∧ w.grownBy w' (some bt) := by
  have hne : (⟨bt, 0, none⟩ : Addr) ≠ ⟨e, 0, none⟩ := by
    intro h
    rw [h, he] at ht
    simp at ht
  refine ⟨?_, ?_, ?_⟩
  · rw [hb.cell (p := ⟨bt, 0, none⟩) (cell_lt ht)]
    exact World.cell?_setCell_same _ _ _ ht
  · rw [hb.cell (p := ⟨e, 0, none⟩) (cell_lt he), World.cell?_setCell_other _ _ _ _ hne]
    exact he
  · refine ⟨hb.os, hb.tape, hb.output, Nat.le_trans (by simp) hb.size, fun k hk hn => ?_⟩
    rw [hb.block k hk]
    exact Below.heap_setCell w _ _ k (fun h => hn (by rw [h]))
theorem grownBy_pre {B : Nat} {w w1 w' : World} {bt : Nat} (hb : Below B w w1) (hB : w.heap.size ≤ B) (hg : w1.grownBy w' (some bt)) : w.grownBy w' (some bt) :=
  ⟨hg.os.trans hb.os, hg.tape.trans hb.tape, hg.output.trans hb.output, Nat.le_trans hb.size hg.size, fun k hk hn => (hg.block k (Nat.lt_of_lt_of_le hk hb.size) hn).trans (hb.block k (Nat.lt_of_lt_of_le hk hB))⟩

set_option maxRecDepth 100000 in
set_option maxHeartbeats 2000000 in
theorem as_any (n : Nat) (v tgt : Value) (c : Int) (lo bt : Nat) (a : Addr) (w : World) (hv : Flt w lo n v c)
    (ha : w.cell? a = some (.pointer (some ⟨bt, 0, none⟩))) (ht : w.cell? ⟨bt, 0, none⟩ = some (.pointer none)) (hf : w.frozen? ⟨bt, 0, none⟩ = false) :
    Calls Tryz.prog 105 #[v, tgt, .agg #[.pointer (some ⟨2, 135, none⟩), .pointer (some a), .int .u64 150], .iface 232 (.agg #[.pointer (some ⟨2, 133, none⟩)])] w
      fun ev w' => ev = .returned (.bool true) ∧ ∃ e, w'.cell? ⟨bt, 0, none⟩ = some (.pointer (some ⟨e, 0, none⟩)) ∧ w'.cell? ⟨e, 0, none⟩ = some (.int .i64 c) ∧ w.grownBy w' (some bt) := by
  have hal := cell_lt ha
  have htl : bt < w.heap.size := cell_lt ht
  have h125 := @run_callFunc_extern Tryz.prog 147 _ ReflectliteType.typeOf Tryz.func147 (by kernel_rfl) (by kernel_rfl) (by kernel_rfl) (by kernel_rfl)
  have h152 := @run_callFunc_extern Tryz.prog 242 _ (ReflectliteType.relation "AssignableTo" ReflectliteType.assignableTo) Tryz.func242 (by kernel_rfl) (by kernel_rfl) (by kernel_rfl) (by kernel_rfl)
  have h126 := @run_callFunc_extern Tryz.prog 148 _ (ReflectliteValue.method (ReflectliteValue.valueError "reflectlite.Value.Elem" 0) ReflectliteValue.elem) Tryz.func148 (by kernel_rfl) (by kernel_rfl) (by kernel_rfl) (by kernel_rfl)
  have h127 := @run_callFunc_extern Tryz.prog 149 _ ReflectliteValue.set Tryz.func149 (by kernel_rfl) (by kernel_rfl) (by kernel_rfl) (by kernel_rfl)
  have h116 := @run_callFunc_extern Tryz.prog 102 _ (fun args => ReflectliteValue.unpack (args.getD 0 (.tuple #[]))) Tryz.func102 (by kernel_rfl) (by kernel_rfl) (by kernel_rfl) (by kernel_rfl)
  have tE := rl_typeOfE
  have tP := rl_typeOfP
  have mA := rl_methodAssignableTo
  have aE := rl_assignableE
  have aP := rl_assignableP
  have vE := rl_valueOfE
  have nA := rl_noAs
  have hU := rl_hasUnwrap
  have mU := rl_methodUnwrap
  go_enter Tryz.func105, Tryz.ntmps105
  go_wp2
  go_loopg [0] n (fun k u wr => wr = w.alloc (.cells #[.pointer (some ⟨2, 135, none⟩), .pointer (some a), .int .u64 150] 187) ∧ Flt w lo k u c)
  case atStart => exact ⟨rfl, hv⟩
  case round =>
    obtain ⟨rfl, hk⟩ := hrel
    cases gk with
    | zero =>
      obtain ⟨b, rfl, hl, hc⟩ := hk
      have el := rl_elemV a ⟨bt, 0, none⟩ (w.alloc (.cells #[.pointer (some ⟨2, 135, none⟩), .pointer (some a), .int .u64 150] 187)) (by rw [World.cell?_alloc_lt _ _ a hal]; exact ha)
      have st := rl_set ⟨bt, 0, none⟩ ⟨w.heap.size + 1, 0, none⟩ ⟨b, 0, none⟩ (.pointer none) ((w.alloc (.cells #[.pointer (some ⟨2, 135, none⟩), .pointer (some a), .int .u64 150] 187)).alloc (.cells #[.pointer (some ⟨b, 0, none⟩)] 133))
        (by rw [World.cell?_alloc_at _ _ _ _ (by simp)]; rfl)
        (by rw [World.cell?_alloc_lt _ _ ⟨bt, 0, none⟩ (by simp; omega), World.cell?_alloc_lt _ _ ⟨bt, 0, none⟩ htl]; exact ht)
        (by rw [World.frozen?_alloc_old _ _ ⟨bt, 0, none⟩ (by simp; omega), World.frozen?_alloc_old _ _ ⟨bt, 0, none⟩ (Nat.ne_of_lt htl)]; exact hf)
      have HC : Hid (w.cell? ⟨b, 0, none⟩ = some (.int .i64 c) ∧ w.cell? ⟨bt, 0, none⟩ = some (.pointer none)) := ⟨hc, ht⟩
      clear hc hv ha ht hf
      go_wp2
      go_ret
      exact ⟨rfl, b, hit_after HC.out.2 HC.out.1 (((Below.refl _ _).alloc (by simp) _).alloc (by simp) _)⟩
    | succ m =>
      obtain ⟨b, v', rfl, hl, hc, hr⟩ := hk
      obtain ⟨t', x', rfl⟩ := hr.iface
      have HR : Hid (Flt w lo m (.iface t' (.pointer (some x'))) c) := hr
      have hbl : b < w.heap.size := cell_lt hc
      clear hr hv
      go_wp2_with (go_at_call 237; refine (unwrap_any b (.iface t' (.pointer (some x'))) _ (by rw [World.cell?_alloc_lt _ _ ⟨b, 1, none⟩ hbl]; exact hc)).mono ?_; rintro e w' ⟨rfl, rfl⟩)
      go_roundg m
      case measure => omega
      case rel => exact ⟨rfl, HR.out⟩

/-- The variable that errors.As looks at, as the program's text lays it. -/
def ErrT (w : World) : Prop := w.cell? ⟨0, 0, none⟩ = some (.iface 232 (.agg #[.pointer (some ⟨2, 72, none⟩)]))
theorem ErrT.below {w w' : World} (h : ErrT w) (hb : Below w.heap.size w w') : ErrT w' := (hb.cell (p := ⟨0, 0, none⟩) (cell_lt h)).trans h

set_option maxRecDepth 100000 in
set_option maxHeartbeats 2000000 in
theorem As_any (n : Nat) (v : Value) (c : Int) (lo bt : Nat) (w : World) (hv : Flt w lo n v c) (hg : ErrT w)
    (ht : w.cell? ⟨bt, 0, none⟩ = some (.pointer none)) (hf : w.frozen? ⟨bt, 0, none⟩ = false) :
    Calls Tryz.prog 66 #[v, .iface 135 (.pointer (some ⟨bt, 0, none⟩))] w
      fun ev w' => ev = .returned (.bool true) ∧ ∃ e, w'.cell? ⟨bt, 0, none⟩ = some (.pointer (some ⟨e, 0, none⟩)) ∧ w'.cell? ⟨e, 0, none⟩ = some (.int .i64 c) ∧ w.grownBy w' (some bt) := by
  obtain ⟨t', x', rfl⟩ := hv.iface
  have htl : bt < w.heap.size := cell_lt ht
  have hgl : 0 < w.heap.size := cell_lt hg
  have h116 := @run_callFunc_extern Tryz.prog 102 _ (fun args => ReflectliteValue.unpack (args.getD 0 (.tuple #[]))) Tryz.func102 (by kernel_rfl) (by kernel_rfl) (by kernel_rfl) (by kernel_rfl)
  have h117 := @run_callFunc_extern Tryz.prog 103 _ (ReflectliteValue.methodAny (ReflectliteValue.valueError "reflectlite.Value.Type" 0) (fun t _ _ _ => ReflectliteType.toType t)) Tryz.func103 (by kernel_rfl) (by kernel_rfl) (by kernel_rfl) (by kernel_rfl)
  have h118 := @run_callFunc_extern Tryz.prog 104 _ (ReflectliteValue.method (ReflectliteValue.valueError "reflectlite.Value.IsNil" 0) ReflectliteValue.isNil) Tryz.func104 (by kernel_rfl) (by kernel_rfl) (by kernel_rfl) (by kernel_rfl)
  have h142 := @run_callFunc_extern Tryz.prog 230 _ (ReflectliteType.abiMethod fun t => do pure (.int .u8 (← Rtype.kind t))) Tryz.func230 (by kernel_rfl) (by kernel_rfl) (by kernel_rfl) (by kernel_rfl)
  have h154 := @run_callFunc_extern Tryz.prog 244 _ (ReflectliteType.method ReflectliteType.elem) Tryz.func244 (by kernel_rfl) (by kernel_rfl) (by kernel_rfl) (by kernel_rfl)
  have h155 := @run_callFunc_extern Tryz.prog 245 _ (ReflectliteType.relation "Implements" ReflectliteType.implements_) Tryz.func245 (by kernel_rfl) (by kernel_rfl) (by kernel_rfl) (by kernel_rfl)
  have f6 := rl_valueOfT
  have f7 := rl_type
  have mK := rl_methodKind
  have mE := rl_methodElem
  have mI := rl_methodImplements
  have kT := rl_kindT
  have kE := rl_kindE
  have eT := rl_elemT
  have iE := rl_implementsE
  have n8 := rl_isNil ⟨w.heap.size, 0, none⟩ ⟨bt, 0, none⟩ ((w.alloc (.cells #[.pointer (some ⟨bt, 0, none⟩)] 135)).alloc (.cells #[.pointer (some ⟨2, 135, none⟩), .pointer (some ⟨w.heap.size, 0, none⟩), .int .u64 150] 187)) (by simp)
  have hg2 : ((w.alloc (.cells #[.pointer (some ⟨bt, 0, none⟩)] 135)).alloc (.cells #[.pointer (some ⟨2, 135, none⟩), .pointer (some ⟨w.heap.size, 0, none⟩), .int .u64 150] 187)).cell? ⟨0, 0, none⟩ = some (.iface 232 (.agg #[.pointer (some ⟨2, 72, none⟩)])) := by
    rw [World.cell?_alloc_lt _ _ ⟨0, 0, none⟩ (by simp <;> omega), World.cell?_alloc_lt _ _ ⟨0, 0, none⟩ hgl]; exact hg
  have hv2 : Hid (Flt ((w.alloc (.cells #[.pointer (some ⟨bt, 0, none⟩)] 135)).alloc (.cells #[.pointer (some ⟨2, 135, none⟩), .pointer (some ⟨w.heap.size, 0, none⟩), .int .u64 150] 187)) lo n (.iface t' (.pointer (some x'))) c) :=
    hv.below (((Below.refl _ _).alloc (Nat.le_refl _) _).alloc (by simp) _)
  clear hg
  go_enter Tryz.func66, Tryz.ntmps66
  go_wp2_with (go_at_call 105; refine (as_any n _ _ c lo bt ⟨w.heap.size, 0, none⟩ _ hv2.out (by simp) (by rw [World.cell?_alloc_lt _ _ ⟨bt, 0, none⟩ (by simp; omega), World.cell?_alloc_lt _ _ ⟨bt, 0, none⟩ htl]; exact ht) (by rw [World.frozen?_alloc_old _ _ ⟨bt, 0, none⟩ (by simp; omega), World.frozen?_alloc_old _ _ ⟨bt, 0, none⟩ (Nat.ne_of_lt htl)]; exact hf)).mono ?_; rintro e w' ⟨rfl, e0, r1, r2, r3⟩)
  go_ret
  exact ⟨rfl, e0, r1, r2, grownBy_pre (((Below.refl w.heap.size w).alloc (Nat.le_refl _) _).alloc (by simp) _) (Nat.le_refl _) r3⟩

set_option maxHeartbeats 1000000 in
theorem codeOf_any (n : Nat) (v : Value) (c : Int) (lo : Nat) (w : World) (hv : Flt w lo n v c) (hg : ErrT w) :
    Calls Tryz.prog 36 #[v] w fun e w' => e = .returned (.int .i64 c) ∧ Below w.heap.size w w' := by
  obtain ⟨t', x', rfl⟩ := hv.iface
  have hb0 : Below w.heap.size w (w.alloc (.cells #[.pointer none] 133)) := (Below.refl _ _).alloc (Nat.le_refl _) _
  have HV : Hid (Flt (w.alloc (.cells #[.pointer none] 133)) lo n (.iface t' (.pointer (some x'))) c ∧ ErrT (w.alloc (.cells #[.pointer none] 133))) := ⟨hv.below hb0, hg.below hb0⟩
  clear hv hg
  go_enter Tryz.func36, Tryz.ntmps36
  go_wp2_with (go_at_call 66; refine (As_any n _ c lo w.heap.size _ HV.out.1 HV.out.2 (by simp) (by simp)).mono ?_; rintro e w' ⟨rfl, e0, r1, r2, r3⟩)
  go_ret
  refine ⟨rfl, ?_⟩
  exact hb0.grown r3 (by simp) (fun k h => by cases h; exact Nat.le_refl _)
end Go.Proofs.YtplieplmhdfndaaGreatDoor

namespace Go.Proofs.YtplieplmhdfndaaGreatDoor
open Go.ChangeShapes Go.WideShapes Go.RowKit

theorem own : ownKnob Tryz.prog.godebug = none := by kernel_rfl
theorem laidOut : laidOutB Tryz.prog = true := by kernel_rfl
theorem d_et : Tryz.prog.globalNamed "errors.errorType" = some 0 := by kernel_rfl
theorem d_rt : (Tryz.prog.cutTypes.find? (·.1 == "internal/reflectlite.rtype")).map (·.2) = some 232 := by kernel_rfl
theorem d_oneRow : ((List.range 318).filter fun t => Tryz.prog.rowNamed t [101, 114, 114, 111, 114]) = [72] := by kernel_rfl
theorem d_size : Tryz.prog.types.size = 318 := by kernel_rfl

/-- The variable's one cell, out of a list that has it. -/
theorem errT_of {L : List (String × DataW Unit)} {W : World} (hm : ("errors.errorType", Rows.laid_errors_errorType) ∈ L) (h : handlesMet Tryz.prog L W) : ErrT W := by
  obtain ⟨name, u, ty, e1, e2, e3, e4, e5⟩ := h _ hm
  have en : name = [101, 114, 114, 111, 114] := (Option.some.inj e1).symm
  subst en
  obtain rfl := Option.some.inj (d_rt.symm.trans e2)
  have hm : ty ∈ (List.range 318).filter fun t => Tryz.prog.rowNamed t [101, 114, 114, 111, 114] := List.mem_filter.2 ⟨List.mem_range.2 (by rw [← d_size]; exact e3), e4⟩
  rw [d_oneRow] at hm
  obtain rfl := List.mem_singleton.1 hm
  have hh : typeHandle Tryz.prog 72 = .pointer (some ⟨2, 72, none⟩) := by kernel_rfl
  rw [hh] at e5
  have hc := World.var?_cell d_et e5 0
  unfold ErrT
  simpa using hc

/-- A world that meets the condition: the settled one, the variable's cell laid. -/
noncomputable def laidWorld (os : Os) : World :=
  let w0 := World.holding Tryz.prog os ⟨#[], #[], []⟩
  { w0 with heap := w0.heap.modify 0 fun
      | .cells _ t frozen => .cells #[.iface 232 (.agg #[.pointer (some ⟨2, 72, none⟩)])] t frozen
      | o => o }
end Go.Proofs.YtplieplmhdfndaaGreatDoor

namespace Go.Proofs.YtplieplmhdfndaaGreatDoor
set_option linter.unusedVariables false
set_option linter.unusedSimpArgs false

theorem nodup_sub : ∀ (l m : List Nat), l.Nodup → (∀ x ∈ l, x ∈ m) → l.length ≤ m.length
  | [], m, _, _ => Nat.zero_le _
  | a :: l, m, hn, hs => by
    have ha : a ∈ m := hs a (by simp)
    have h1 := nodup_sub l (m.erase a) (List.nodup_cons.1 hn).2 (fun x hx => by
      have hne : x ≠ a := fun e => (List.nodup_cons.1 hn).1 (e ▸ hx)
      exact (List.mem_erase_of_ne hne).2 (hs x (by simp [hx])))
    have h2 := List.length_erase_of_mem ha
    have h3 : 0 < m.length := List.length_pos_of_mem ha
    simp
    omega
theorem flat_erase {β : Type} [BEq β] [LawfulBEq β] (ch : Nat → List β) (c : β) (a : Nat) : ∀ m : List Nat, a ∈ m → (m.flatMap ch).count c = (ch a).count c + ((m.erase a).flatMap ch).count c
  | [], h => by cases h
  | b :: m, h => by
    by_cases e : b = a
    · subst e
      rw [List.erase_cons_head, List.flatMap_cons, List.count_append]
    · have hm : a ∈ m := by
        rcases List.mem_cons.1 h with h | h
        · exact absurd h.symm e
        · exact h
      rw [List.erase_cons_tail (by simpa using e), List.flatMap_cons, List.flatMap_cons, List.count_append, List.count_append, flat_erase ch c a m hm]
      omega
theorem flat_sub {β : Type} [BEq β] [LawfulBEq β] (ch : Nat → List β) (c : β) : ∀ (l m : List Nat), l.Nodup → (∀ x ∈ l, x ∈ m) → (l.flatMap ch).count c ≤ (m.flatMap ch).count c
  | [], m, _, _ => by simp
  | a :: l, m, hn, hs => by
    have ha : a ∈ m := hs a (by simp)
    have h1 := flat_sub ch c l (m.erase a) (List.nodup_cons.1 hn).2 (fun x hx => by
      have hne : x ≠ a := fun e => (List.nodup_cons.1 hn).1 (e ▸ hx)
      exact (List.mem_erase_of_ne hne).2 (hs x (by simp [hx])))
    rw [List.flatMap_cons, List.count_append, flat_erase ch c a m ha]
    omega
/-- Breadth first: what was met, and what is to be looked at. -/
def bfs (ch : Nat → List Nat) : Nat → List Nat → List Nat → List Nat
  | 0, P, T => P ++ T
  | f + 1, P, T => match T with
    | [] => P
    | x :: T => bfs ch f (P ++ [x]) (T ++ ch x)
theorem bfs_done (ch : Nat → List Nat) (f : Nat) (P : List Nat) : bfs ch f P [] = P := by cases f <;> simp [bfs]
/-- The numbers of a tree's directories: each has one name at most, the root none. -/
structure TreeN (n : Nat) (ch : Nat → List Nat) : Prop where
  one : ∀ c, ((List.range n).flatMap ch).count c ≤ 1
  root : ∀ k, k < n → (1 : Nat) ∉ ch k
  inn : ∀ k, k < n → ∀ c ∈ ch k, c < n
/-- In the midst of a walk over the directories. -/
structure Bf (n : Nat) (ch : Nat → List Nat) (P T : List Nat) : Prop where
  eq : P ++ T = 1 :: P.flatMap ch
  nd : (P ++ T).Nodup
  lt : ∀ x ∈ P ++ T, x < n
theorem Bf.start {n : Nat} {ch : Nat → List Nat} (h : 1 < n) : Bf n ch [] [1] := ⟨rfl, by simp, by simp; exact h⟩
theorem Bf.next {n : Nat} {ch : Nat → List Nat} {P T : List Nat} {x : Nat} (ht : TreeN n ch) (h : Bf n ch P (x :: T)) : Bf n ch (P ++ [x]) (T ++ ch x) := by
  have hx : x < n := h.lt x (by simp)
  have he : (P ++ [x]) ++ (T ++ ch x) = 1 :: (P ++ [x]).flatMap ch := by
    have := h.eq
    rw [List.flatMap_append]
    simp only [List.flatMap_cons, List.flatMap_nil, List.append_nil]
    rw [← List.cons_append, ← this]
    simp
  have hl : ∀ y ∈ (P ++ [x]) ++ (T ++ ch x), y < n := by
    intro y hy
    rcases List.mem_append.1 hy with hy | hy
    · exact h.lt y (by rcases List.mem_append.1 hy with h1 | h1 <;> simp_all)
    · rcases List.mem_append.1 hy with hy | hy
      · exact h.lt y (by simp [hy])
      · exact ht.inn x hx y hy
  refine ⟨he, ?_, hl⟩
  have hPn : (P ++ [x]).Nodup := by
    have := h.nd
    rw [show P ++ x :: T = (P ++ [x]) ++ T by simp] at this
    exact (List.nodup_append.1 this).1
  have hPl : ∀ y ∈ P ++ [x], y ∈ List.range n := fun y hy => List.mem_range.2 (hl y (List.mem_append_left _ hy))
  rw [he, List.nodup_cons]
  refine ⟨fun h1 => ?_, ?_⟩
  · obtain ⟨k, hk, hc⟩ := List.mem_flatMap.1 h1
    exact ht.root k (List.mem_range.1 (hPl k hk)) hc
  · rw [List.nodup_iff_count]
    intro c
    exact Nat.le_trans (flat_sub ch c (P ++ [x]) (List.range n) hPn hPl) (ht.one c)
theorem Bf.len {n : Nat} {ch : Nat → List Nat} {P T : List Nat} (h : Bf n ch P T) : P.length + T.length ≤ n := by
  have := nodup_sub (P ++ T) (List.range n) h.nd (fun x hx => List.mem_range.2 (h.lt x hx))
  simpa using this
/-- The directories among entries (number, kind). -/
def chE (E : Nat → List (Nat × Nat)) (k : Nat) : List Nat := ((E k).filter (·.2 == 2)).map (·.1)
/-- How many entries name a number. -/
def namesE (n : Nat) (E : Nat → List (Nat × Nat)) (i : Nat) : Nat := ((List.range n).flatMap E).countP (·.1 == i)
structure StC (n : Nat) (E : Nat → List (Nat × Nat)) (kd : Nat → Nat) : Prop where
  dir : ∀ k, k < n → E k ≠ [] → kd k = 2
  ok : ∀ k, k < n → ∀ e ∈ E k, e.1 ≠ 1 ∧ e.1 < n ∧ kd e.1 = e.2
  root : 1 < n ∧ kd 1 = 2
  one : ∀ i, i < n → kd i = 2 → i ≠ 1 → namesE n E i = 1
  named : ∀ i, i < n → kd i ≠ 0 → kd i ≠ 2 → 1 ≤ namesE n E i
theorem mem_chE {E : Nat → List (Nat × Nat)} {k c : Nat} : c ∈ chE E k ↔ (c, 2) ∈ E k := by
  unfold chE
  simp only [List.mem_map, List.mem_filter, beq_iff_eq]
  constructor
  · rintro ⟨⟨a, b⟩, ⟨h1, h2⟩, h3⟩
    simp at h2 h3
    subst h2 h3
    exact h1
  · intro h
    exact ⟨(c, 2), ⟨h, rfl⟩, rfl⟩
theorem count_chE (E : Nat → List (Nat × Nat)) (c : Nat) : ∀ l : List Nat, (l.flatMap (chE E)).count c ≤ (l.flatMap E).countP (·.1 == c)
  | [] => by simp
  | k :: l => by
    rw [List.flatMap_cons, List.flatMap_cons, List.count_append, List.countP_append]
    have h1 := count_chE E c l
    have h2 : (chE E k).count c ≤ (E k).countP (·.1 == c) := by
      unfold chE
      rw [List.count, List.countP_map, List.countP_filter]
      exact List.countP_mono_left (fun x hx h => by simp at h ⊢; exact h.1)
    omega
theorem countP_pos_mem {α : Type} {p : α → Bool} {l : List α} (h : 1 ≤ l.countP p) : ∃ a ∈ l, p a = true := List.countP_pos_iff.1 h
theorem StC.tree {n : Nat} {E : Nat → List (Nat × Nat)} {kd : Nat → Nat} (h : StC n E kd) : TreeN n (chE E) := by
  refine ⟨fun c => ?_, fun k hk hc => (h.ok k hk _ (mem_chE.1 hc)).1 rfl, fun k hk c hc => (h.ok k hk _ (mem_chE.1 hc)).2.1⟩
  by_cases hm : c ∈ (List.range n).flatMap (chE E)
  · obtain ⟨k, hk, hc⟩ := List.mem_flatMap.1 hm
    have hk := List.mem_range.1 hk
    have ho := h.ok k hk _ (mem_chE.1 hc)
    have h1 := h.one c ho.2.1 ho.2.2 ho.1
    have h2 := count_chE E c (List.range n)
    unfold namesE at h1
    omega
  · rw [List.count_eq_zero_of_not_mem hm]
    omega
theorem reach_eq {n : Nat} {E : Nat → List (Nat × Nat)} {kd : Nat → Nat} {R : List Nat} (h : StC n E kd) (hR : Bf n (chE E) R []) :
    (∀ k, k < n → kd k ≠ 0 → k = 1 ∨ ∃ x ∈ R, ∃ e ∈ E x, e.1 = k) ↔ R.length = ((List.range n).filter (kd · == 2)).length := by
  have heq : R = 1 :: R.flatMap (chE E) := by have := hR.eq; rwa [List.append_nil] at this
  have hnd : R.Nodup := by have := hR.nd; rwa [List.append_nil] at this
  have hlt : ∀ x ∈ R, x < n := by have := hR.lt; rwa [List.append_nil] at this
  have hdir : ∀ x ∈ R, kd x = 2 := by
    intro x hx
    rw [heq] at hx
    rcases List.mem_cons.1 hx with rfl | hx
    · exact h.root.2
    · obtain ⟨k, hk, hc⟩ := List.mem_flatMap.1 hx
      exact (h.ok k (hlt k hk) _ (mem_chE.1 hc)).2.2
  have hsub : ∀ x ∈ R, x ∈ (List.range n).filter (kd · == 2) := fun x hx => List.mem_filter.2 ⟨List.mem_range.2 (hlt x hx), by simp [hdir x hx]⟩
  have hnf : ((List.range n).filter (kd · == 2)).Nodup := (List.Pairwise.filter _ List.nodup_range)
  have hall : (∀ k, k < n → kd k = 2 → k ∈ R) ↔ R.length = ((List.range n).filter (kd · == 2)).length := by
    constructor
    · intro hk
      refine Nat.le_antisymm (nodup_sub _ _ hnd hsub) (nodup_sub _ _ hnf (fun x hx => ?_))
      obtain ⟨h1, h2⟩ := List.mem_filter.1 hx
      exact hk x (List.mem_range.1 h1) (by simpa using h2)
    · intro hl k hk hd
      rcases Classical.em (k ∈ R) with hm | hm
      · exact hm
      · exfalso
        have hmem : k ∈ (List.range n).filter (kd · == 2) := List.mem_filter.2 ⟨List.mem_range.2 hk, by simp [hd]⟩
        have h1 := nodup_sub (k :: R) ((List.range n).filter (kd · == 2)) (List.nodup_cons.2 ⟨hm, hnd⟩) (fun x hx => by
          rcases List.mem_cons.1 hx with rfl | hx
          · exact hmem
          · exact hsub x hx)
        simp only [List.length_cons] at h1
        omega
  rw [← hall]
  constructor
  · intro hs k hk hd
    rcases hs k hk (by omega) with rfl | ⟨x, hx, e, he, rfl⟩
    · rw [heq]; simp
    · rw [heq]
      have ho := h.ok x (hlt x hx) e he
      refine List.mem_cons_of_mem _ (List.mem_flatMap.2 ⟨x, hx, mem_chE.2 ?_⟩)
      have : e = (e.1, 2) := by rw [← hd, ho.2.2]
      rw [← this]; exact he
  · intro hs k hk hne
    by_cases hd : kd k = 2
    · have hm := hs k hk hd
      rw [heq] at hm
      rcases List.mem_cons.1 hm with rfl | hm
      · exact .inl rfl
      · obtain ⟨x, hx, hc⟩ := List.mem_flatMap.1 hm
        exact .inr ⟨x, hx, _, mem_chE.1 hc, rfl⟩
    · obtain ⟨e, he, hp⟩ := countP_pos_mem (h.named k hk hne hd)
      obtain ⟨x, hx, hex⟩ := List.mem_flatMap.1 he
      have hx := List.mem_range.1 hx
      exact .inr ⟨x, hs x hx (h.dir x hx (by intro e0; rw [e0] at hex; cases hex)), e, hex, by simpa using hp⟩
end Go.Proofs.YtplieplmhdfndaaGreatDoor

namespace Go.Proofs.YtplieplmhdfndaaGreatDoor
open Go.RowKit

/-- The same of values whose slots the walk can read: one of so many elements. -/
def At (k : IntKind) (w : World) (v : Value) (n : Nat) (zs : List Int) : Prop :=
  (∃ a cap, v = .slice a n cap ∧ n < 1) ∨ ∃ b off cap, v = .slice (some ⟨b, off, none⟩) n cap ∧ b < w.heap.size ∧ ∀ i, i < n → w.cell? ⟨b, off + i, none⟩ = some (.int k (zs.getD i 0))

theorem take_eq_step (xs ys : List Int) (k : Nat) (hx : k < xs.length) (hy : k < ys.length) (h : xs.take k = ys.take k) (he : xs.getD k 0 = ys.getD k 0) : xs.take (k + 1) = ys.take (k + 1) := by
  rw [List.take_succ_eq_append_getElem hx, List.take_succ_eq_append_getElem hy, h]
  simp only [List.getD, List.getElem?_eq_getElem hx, List.getElem?_eq_getElem hy, Option.getD_some] at he
  rw [he]

/-- The marks from k on: n bytes. -/
def mk8 (k n : Nat) : List Int := (List.range n).map fun i => ((k + i : Nat) : Int) % 256
theorem mk8_len (k n : Nat) : (mk8 k n).length = n := by simp [mk8]
theorem mk8_get (k n i : Nat) (h : i < n) : (mk8 k n)[i]? = some (((k + i : Nat) : Int) % 256) := by simp [mk8, h]
theorem set_over {α : Type} (ms xs : List α) (z : α) (k n : Nat) (hk : k < n) (hm : ms.length = n) (hx : xs.length = n) (he : ms[k]? = some z) :
    (ms.take k ++ xs.drop k).set k z = ms.take (k + 1) ++ xs.drop (k + 1) := by
  apply List.ext_getElem?
  intro i
  rw [List.getElem?_set]
  by_cases hik : k = i
  · subst hik
    rw [if_pos rfl, if_pos (by simp; omega), List.getElem?_append_left (by simp; omega), List.getElem?_take, if_pos (by omega), he]
  · rw [if_neg hik]
    by_cases hlt : i < k
    · rw [List.getElem?_append_left (by simp; omega), List.getElem?_append_left (by simp; omega), List.getElem?_take, List.getElem?_take, if_pos hlt, if_pos (by omega)]
    · rw [List.getElem?_append_right (by simp; omega), List.getElem?_append_right (by simp; omega), List.getElem?_drop, List.getElem?_drop]
      simp only [List.length_take]
      congr 1
      omega

theorem grownBy_trans {w w1 w2 : World} {r : Option Nat} (h1 : w.grownBy w1 r) (h2 : w1.grownBy w2 r) : w.grownBy w2 r :=
  ⟨h2.os.trans h1.os, h2.tape.trans h1.tape, h2.output.trans h1.output, Nat.le_trans h1.size h2.size, fun k hk hn => (h2.block k (Nat.lt_of_lt_of_le hk h1.size) hn).trans (h1.block k hk hn)⟩

end Go.Proofs.YtplieplmhdfndaaGreatDoor
