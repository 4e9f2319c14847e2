/- errors.as, errors.As and codeOf walked at a chain of faults: the code of the form fault at its end. What the listed variables give a walk, and a world that meets the condition. Plain facts on lists, marks and worlds that the laws' helpers share. The laws' own helpers over []int: a copy, two held against each other, marks. -/
import Derived.Test.YtlimollpocagiaaGreatDoorZr01
import Derived.ProofKit
import Derived.OpenShut
import Derived.ShutString
import Derived.ChangeOld
import Derived.Below
import Derived.ChangeSame
import Derived.ChangeVars
import Derived.JoinedOf
import Derived.LaidLaws
import Derived.LaidHandle
import Derived.Stop.Joined
import Derived.Test.YtlimollpocagiaaGreatDoorRows
import Derived.WalkLawsBesides
import Derived.Deep.QuietTactic
import Derived.BigQuiet
namespace Go.Proofs.YtlimollpocagiaaGreatDoor
open Go.RowKit Go.Extern.Stop Go.Stop Go.Extern

theorem hit_after {w w' : World} {bt e : Nat} {c : Int} (ht : w.cell? ⟨bt, 0, none⟩ = some (.pointer none)) (he : w.cell? ⟨e, 0, none⟩ = some (.int .i64 c))
    (hb : Below w.heap.size (w.setCell ⟨bt, 0, none⟩ (.pointer (some ⟨e, 0, none⟩))) w') :
    w'.cell? ⟨bt, 0, none⟩ = some (.pointer (some ⟨e, 0, none⟩)) ∧ w'.cell? ⟨e, 0, none⟩ = some (.int .i64 c) ∧ w.grownBy w' (some bt) := by
  have hne : (⟨bt, 0, none⟩ : Addr) ≠ ⟨e, 0, none⟩ := by
    intro h
    rw [h, he] at ht
    simp at ht
  refine ⟨?_, ?_, ?_⟩
  · rw [hb.cell (p := ⟨bt, 0, none⟩) (cell_lt ht)]
    exact World.cell?_setCell_same _ _ _ ht
  · rw [hb.cell (p := ⟨e, 0, none⟩) (cell_lt he), World.cell?_setCell_other _ _ _ _ hne]
    exact he
  · refine ⟨hb.os, hb.tape, hb.output, Nat.le_trans (by simp) hb.size, fun k hk hn => ?_⟩
    rw [hb.block k hk]
    exact Below.heap_setCell w _ _ k (fun h => hn (by rw [h]))
theorem grownBy_pre {B : Nat} {w w1 w' : World} {bt : Nat} (hb : Below B w w1) (hB : w.heap.size ≤ B) (hg : w1.grownBy w' (some bt)) : w.grownBy w' (some bt) :=
  ⟨hg.os.trans hb.os, hg.tape.trans hb.tape, hg.output.trans hb.output, Nat.le_trans hb.size hg.size, fun k hk hn => (hg.block k (Nat.lt_of_lt_of_le hk hb.size) hn).trans (hb.block k (Nat.lt_of_lt_of_le hk hB))⟩

set_option maxRecDepth 100000 in
set_option maxHeartbeats 2000000 in
theorem as_any (n : Nat) (v tgt : Value) (c : Int) (lo bt : Nat) (a : Addr) (w : World) (hv : Flt w lo n v c)
    (ha : w.cell? a = some (.pointer (some ⟨bt, 0, none⟩))) (ht : w.cell? ⟨bt, 0, none⟩ = some (.pointer none)) (hf : w.frozen? ⟨bt, 0, none⟩ = false) :
    Calls Tryz.prog 97 #[v, tgt, .agg #[.pointer (some ⟨1, 116, none⟩), .pointer (some a), .int .u64 150], .iface 193 (.agg #[.pointer (some ⟨1, 114, none⟩)])] w
      fun ev w' => ev = .returned (.bool true) ∧ ∃ e, w'.cell? ⟨bt, 0, none⟩ = some (.pointer (some ⟨e, 0, none⟩)) ∧ w'.cell? ⟨e, 0, none⟩ = some (.int .i64 c) ∧ w.grownBy w' (some bt) := by
  have hal := cell_lt ha
  have htl : bt < w.heap.size := cell_lt ht
  have h125 := @run_callFunc_extern Tryz.prog 112 _ ReflectliteType.typeOf Tryz.func112 (by kernel_rfl) (by kernel_rfl) (by kernel_rfl) (by kernel_rfl)
  have h152 := @run_callFunc_extern Tryz.prog 150 _ (ReflectliteType.relation "AssignableTo" ReflectliteType.assignableTo) Tryz.func150 (by kernel_rfl) (by kernel_rfl) (by kernel_rfl) (by kernel_rfl)
  have h126 := @run_callFunc_extern Tryz.prog 113 _ (ReflectliteValue.method (ReflectliteValue.valueError "reflectlite.Value.Elem" 0) ReflectliteValue.elem) Tryz.func113 (by kernel_rfl) (by kernel_rfl) (by kernel_rfl) (by kernel_rfl)
  have h127 := @run_callFunc_extern Tryz.prog 114 _ ReflectliteValue.set Tryz.func114 (by kernel_rfl) (by kernel_rfl) (by kernel_rfl) (by kernel_rfl)
  have h116 := @run_callFunc_extern Tryz.prog 94 _ (fun args => ReflectliteValue.unpack (args.getD 0 (.tuple #[]))) Tryz.func94 (by kernel_rfl) (by kernel_rfl) (by kernel_rfl) (by kernel_rfl)
  have tE := rl_typeOfE
  have tP := rl_typeOfP
  have mA := rl_methodAssignableTo
  have aE := rl_assignableE
  have aP := rl_assignableP
  have vE := rl_valueOfE
  have nA := rl_noAs
  have hU := rl_hasUnwrap
  have mU := rl_methodUnwrap
  go_enter Tryz.func97, Tryz.ntmps97
  go_wp2
  go_loopg [0] n (fun k u wr => wr = w.alloc (.cells #[.pointer (some ⟨1, 116, none⟩), .pointer (some a), .int .u64 150] 165) ∧ Flt w lo k u c)
  case atStart => exact ⟨rfl, hv⟩
  case round =>
    obtain ⟨rfl, hk⟩ := hrel
    cases gk with
    | zero =>
      obtain ⟨b, rfl, hl, hc⟩ := hk
      have el := rl_elemV a ⟨bt, 0, none⟩ (w.alloc (.cells #[.pointer (some ⟨1, 116, none⟩), .pointer (some a), .int .u64 150] 165)) (by rw [World.cell?_alloc_lt _ _ a hal]; exact ha)
      have st := rl_set ⟨bt, 0, none⟩ ⟨w.heap.size + 1, 0, none⟩ ⟨b, 0, none⟩ (.pointer none) ((w.alloc (.cells #[.pointer (some ⟨1, 116, none⟩), .pointer (some a), .int .u64 150] 165)).alloc (.cells #[.pointer (some ⟨b, 0, none⟩)] 114))
        (by rw [World.cell?_alloc_at _ _ _ _ (by simp)]; rfl)
        (by rw [World.cell?_alloc_lt _ _ ⟨bt, 0, none⟩ (by simp; omega), World.cell?_alloc_lt _ _ ⟨bt, 0, none⟩ htl]; exact ht)
        (by rw [World.frozen?_alloc_old _ _ ⟨bt, 0, none⟩ (by simp; omega), World.frozen?_alloc_old _ _ ⟨bt, 0, none⟩ (Nat.ne_of_lt htl)]; exact hf)
      have HC : Hid (w.cell? ⟨b, 0, none⟩ = some (.int .i64 c) ∧ w.cell? ⟨bt, 0, none⟩ = some (.pointer none)) := ⟨hc, ht⟩
      clear hc hv ha ht hf
      go_wp2
      go_ret
      exact ⟨rfl, b, hit_after HC.out.2 HC.out.1 (((Below.refl _ _).alloc (by simp) _).alloc (by simp) _)⟩
    | succ m =>
      obtain ⟨b, v', rfl, hl, hc, hr⟩ := hk
      obtain ⟨t', x', rfl⟩ := hr.iface
      have HR : Hid (Flt w lo m (.iface t' (.pointer (some x'))) c) := hr
      have hbl : b < w.heap.size := cell_lt hc
      clear hr hv
      go_wp2_with (go_at_call 145; refine (unwrap_any b (.iface t' (.pointer (some x'))) _ (by rw [World.cell?_alloc_lt _ _ ⟨b, 1, none⟩ hbl]; exact hc)).mono ?_; rintro e w' ⟨rfl, rfl⟩)
      go_roundg m
      case measure => omega
      case rel => exact ⟨rfl, HR.out⟩

/-- The variable that errors.As looks at, as the program's text lays it. -/
def ErrT (w : World) : Prop := w.cell? ⟨0, 0, none⟩ = some (.iface 193 (.agg #[.pointer (some ⟨1, 62, none⟩)]))
theorem ErrT.below {w w' : World} (h : ErrT w) (hb : Below w.heap.size w w') : ErrT w' := (hb.cell (p := ⟨0, 0, none⟩) (cell_lt h)).trans h

set_option maxRecDepth 100000 in
set_option maxHeartbeats 2000000 in
theorem As_any (n : Nat) (v : Value) (c : Int) (lo bt : Nat) (w : World) (hv : Flt w lo n v c) (hg : ErrT w)
    (ht : w.cell? ⟨bt, 0, none⟩ = some (.pointer none)) (hf : w.frozen? ⟨bt, 0, none⟩ = false) :
    Calls Tryz.prog 64 #[v, .iface 116 (.pointer (some ⟨bt, 0, none⟩))] w
      fun ev w' => ev = .returned (.bool true) ∧ ∃ e, w'.cell? ⟨bt, 0, none⟩ = some (.pointer (some ⟨e, 0, none⟩)) ∧ w'.cell? ⟨e, 0, none⟩ = some (.int .i64 c) ∧ w.grownBy w' (some bt) := by
  obtain ⟨t', x', rfl⟩ := hv.iface
  have htl : bt < w.heap.size := cell_lt ht
  have hgl : 0 < w.heap.size := cell_lt hg
  have h116 := @run_callFunc_extern Tryz.prog 94 _ (fun args => ReflectliteValue.unpack (args.getD 0 (.tuple #[]))) Tryz.func94 (by kernel_rfl) (by kernel_rfl) (by kernel_rfl) (by kernel_rfl)
  have h117 := @run_callFunc_extern Tryz.prog 95 _ (ReflectliteValue.methodAny (ReflectliteValue.valueError "reflectlite.Value.Type" 0) (fun t _ _ _ => ReflectliteType.toType t)) Tryz.func95 (by kernel_rfl) (by kernel_rfl) (by kernel_rfl) (by kernel_rfl)
  have h118 := @run_callFunc_extern Tryz.prog 96 _ (ReflectliteValue.method (ReflectliteValue.valueError "reflectlite.Value.IsNil" 0) ReflectliteValue.isNil) Tryz.func96 (by kernel_rfl) (by kernel_rfl) (by kernel_rfl) (by kernel_rfl)
  have h142 := @run_callFunc_extern Tryz.prog 139 _ (ReflectliteType.abiMethod fun t => do pure (.int .u8 (← Rtype.kind t))) Tryz.func139 (by kernel_rfl) (by kernel_rfl) (by kernel_rfl) (by kernel_rfl)
  have h154 := @run_callFunc_extern Tryz.prog 152 _ (ReflectliteType.method ReflectliteType.elem) Tryz.func152 (by kernel_rfl) (by kernel_rfl) (by kernel_rfl) (by kernel_rfl)
  have h155 := @run_callFunc_extern Tryz.prog 153 _ (ReflectliteType.relation "Implements" ReflectliteType.implements_) Tryz.func153 (by kernel_rfl) (by kernel_rfl) (by kernel_rfl) (by kernel_rfl)
  have f6 := rl_valueOfT
  have f7 := rl_type
  have mK := rl_methodKind
  have mE := rl_methodElem
  have mI := rl_methodImplements
  have kT := rl_kindT
  have kE := rl_kindE
  have eT := rl_elemT
  have iE := rl_implementsE
  have n8 := rl_isNil ⟨w.heap.size, 0, none⟩ ⟨bt, 0, none⟩ ((w.alloc (.cells #[.pointer (some ⟨bt, 0, none⟩)] 116)).alloc (.cells #[.pointer (some ⟨1, 116, none⟩), .pointer (some ⟨w.heap.size, 0, none⟩), .int .u64 150] 165)) (by simp)
  have hg2 : ((w.alloc (.cells #[.pointer (some ⟨bt, 0, none⟩)] 116)).alloc (.cells #[.pointer (some ⟨1, 116, none⟩), .pointer (some ⟨w.heap.size, 0, none⟩), .int .u64 150] 165)).cell? ⟨0, 0, none⟩ = some (.iface 193 (.agg #[.pointer (some ⟨1, 62, none⟩)])) := by
    rw [World.cell?_alloc_lt _ _ ⟨0, 0, none⟩ (by simp <;> omega), World.cell?_alloc_lt _ _ ⟨0, 0, none⟩ hgl]; exact hg
  have hv2 : Hid (Flt ((w.alloc (.cells #[.pointer (some ⟨bt, 0, none⟩)] 116)).alloc (.cells #[.pointer (some ⟨1, 116, none⟩), .pointer (some ⟨w.heap.size, 0, none⟩), .int .u64 150] 165)) lo n (.iface t' (.pointer (some x'))) c) :=
    hv.below (((Below.refl _ _).alloc (Nat.le_refl _) _).alloc (by simp) _)
  clear hg
  go_enter Tryz.func64, Tryz.ntmps64
  go_wp2_with (go_at_call 97; refine (as_any n _ _ c lo bt ⟨w.heap.size, 0, none⟩ _ hv2.out (by simp) (by rw [World.cell?_alloc_lt _ _ ⟨bt, 0, none⟩ (by simp; omega), World.cell?_alloc_lt _ _ ⟨bt, 0, none⟩ htl]; exact ht) (by rw [World.frozen?_alloc_old _ _ ⟨bt, 0, none⟩ (by simp; omega), World.frozen?_alloc_old _ _ ⟨bt, 0, none⟩ (Nat.ne_of_lt htl)]; exact hf)).mono ?_; rintro e w' ⟨rfl, e0, r1, r2, r3⟩)
  go_ret
  exact ⟨rfl, e0, r1, r2, grownBy_pre (((Below.refl w.heap.size w).alloc (Nat.le_refl _) _).alloc (by simp) _) (Nat.le_refl _) r3⟩

set_option maxHeartbeats 1000000 in
theorem codeOf_any (n : Nat) (v : Value) (c : Int) (lo : Nat) (w : World) (hv : Flt w lo n v c) (hg : ErrT w) :
    Calls Tryz.prog 27 #[v] w fun e w' => e = .returned (.int .i64 c) ∧ Below w.heap.size w w' := by
  obtain ⟨t', x', rfl⟩ := hv.iface
  have hb0 : Below w.heap.size w (w.alloc (.cells #[.pointer none] 114)) := (Below.refl _ _).alloc (Nat.le_refl _) _
  have HV : Hid (Flt (w.alloc (.cells #[.pointer none] 114)) lo n (.iface t' (.pointer (some x'))) c ∧ ErrT (w.alloc (.cells #[.pointer none] 114))) := ⟨hv.below hb0, hg.below hb0⟩
  clear hv hg
  go_enter Tryz.func27, Tryz.ntmps27
  go_wp2_with (go_at_call 64; refine (As_any n _ c lo w.heap.size _ HV.out.1 HV.out.2 (by simp) (by simp)).mono ?_; rintro e w' ⟨rfl, e0, r1, r2, r3⟩)
  go_ret
  refine ⟨rfl, ?_⟩
  exact hb0.grown r3 (by simp) (fun k h => by cases h; exact Nat.le_refl _)
end Go.Proofs.YtlimollpocagiaaGreatDoor

namespace Go.Proofs.YtlimollpocagiaaGreatDoor
open Go.ChangeShapes Go.WideShapes Go.RowKit

theorem own : ownKnob Tryz.prog.godebug = none := by kernel_rfl
theorem laidOut : laidOutB Tryz.prog = true := by kernel_rfl
theorem d_et : Tryz.prog.globalNamed "errors.errorType" = some 0 := by kernel_rfl
theorem d_rt : (Tryz.prog.cutTypes.find? (·.1 == "internal/reflectlite.rtype")).map (·.2) = some 193 := by kernel_rfl
theorem d_oneRow : ((List.range 239).filter fun t => Tryz.prog.rowNamed t [101, 114, 114, 111, 114]) = [62] := by kernel_rfl
theorem d_size : Tryz.prog.types.size = 239 := by kernel_rfl

/-- The variable's one cell, out of a list that has it. -/
theorem errT_of {L : List (String × DataW Unit)} {W : World} (hm : ("errors.errorType", Rows.laid_errors_errorType) ∈ L) (h : handlesMet Tryz.prog L W) : ErrT W := by
  obtain ⟨name, u, ty, e1, e2, e3, e4, e5⟩ := h _ hm
  have en : name = [101, 114, 114, 111, 114] := (Option.some.inj e1).symm
  subst en
  obtain rfl := Option.some.inj (d_rt.symm.trans e2)
  have hm : ty ∈ (List.range 239).filter fun t => Tryz.prog.rowNamed t [101, 114, 114, 111, 114] := List.mem_filter.2 ⟨List.mem_range.2 (by rw [← d_size]; exact e3), e4⟩
  rw [d_oneRow] at hm
  obtain rfl := List.mem_singleton.1 hm
  have hh : typeHandle Tryz.prog 62 = .pointer (some ⟨1, 62, none⟩) := by kernel_rfl
  rw [hh] at e5
  have hc := World.var?_cell d_et e5 0
  unfold ErrT
  simpa using hc

/-- A world that meets the condition: the settled one, the variable's cell laid. -/
noncomputable def laidWorld (os : Os) : World :=
  let w0 := World.holding Tryz.prog os ⟨#[], #[], []⟩
  { w0 with heap := w0.heap.modify 0 fun
      | .cells _ t frozen => .cells #[.iface 193 (.agg #[.pointer (some ⟨1, 62, none⟩)])] t frozen
      | o => o }
end Go.Proofs.YtlimollpocagiaaGreatDoor

namespace Go.Proofs.YtlimollpocagiaaGreatDoor
open Go.RowKit

/-- The same of values whose slots the walk can read: one of so many elements. -/
def At (k : IntKind) (w : World) (v : Value) (n : Nat) (zs : List Int) : Prop :=
  (∃ a cap, v = .slice a n cap ∧ n < 1) ∨ ∃ b off cap, v = .slice (some ⟨b, off, none⟩) n cap ∧ b < w.heap.size ∧ ∀ i, i < n → w.cell? ⟨b, off + i, none⟩ = some (.int k (zs.getD i 0))

theorem take_eq_step (xs ys : List Int) (k : Nat) (hx : k < xs.length) (hy : k < ys.length) (h : xs.take k = ys.take k) (he : xs.getD k 0 = ys.getD k 0) : xs.take (k + 1) = ys.take (k + 1) := by
  rw [List.take_succ_eq_append_getElem hx, List.take_succ_eq_append_getElem hy, h]
  simp only [List.getD, List.getElem?_eq_getElem hx, List.getElem?_eq_getElem hy, Option.getD_some] at he
  rw [he]

/-- The marks from k on: n bytes. -/
def mk8 (k n : Nat) : List Int := (List.range n).map fun i => ((k + i : Nat) : Int) % 256
/-- The marks from k on: n integers. -/
def mk64 (k n : Nat) : List Int := (List.range n).map fun i => ((k + i : Nat) : Int)
theorem mk8_len (k n : Nat) : (mk8 k n).length = n := by simp [mk8]
theorem mk64_len (k n : Nat) : (mk64 k n).length = n := by simp [mk64]
theorem mk8_get (k n i : Nat) (h : i < n) : (mk8 k n)[i]? = some (((k + i : Nat) : Int) % 256) := by simp [mk8, h]
theorem mk64_get (k n i : Nat) (h : i < n) : (mk64 k n)[i]? = some ((k + i : Nat) : Int) := by simp [mk64, h]
theorem mk8_getD (k n i : Nat) (h : i < n) : (mk8 k n).getD i 0 = ((k + i : Nat) : Int) % 256 := by simp [List.getD, mk8_get k n i h]
theorem mk64_getD (k n i : Nat) (h : i < n) : (mk64 k n).getD i 0 = ((k + i : Nat) : Int) := by simp [List.getD, mk64_get k n i h]

theorem set_over {α : Type} (ms xs : List α) (z : α) (k n : Nat) (hk : k < n) (hm : ms.length = n) (hx : xs.length = n) (he : ms[k]? = some z) :
    (ms.take k ++ xs.drop k).set k z = ms.take (k + 1) ++ xs.drop (k + 1) := by
  apply List.ext_getElem?
  intro i
  rw [List.getElem?_set]
  by_cases hik : k = i
  · subst hik
    rw [if_pos rfl, if_pos (by simp; omega), List.getElem?_append_left (by simp; omega), List.getElem?_take, if_pos (by omega), he]
  · rw [if_neg hik]
    by_cases hlt : i < k
    · rw [List.getElem?_append_left (by simp; omega), List.getElem?_append_left (by simp; omega), List.getElem?_take, List.getElem?_take, if_pos hlt, if_pos (by omega)]
    · rw [List.getElem?_append_right (by simp; omega), List.getElem?_append_right (by simp; omega), List.getElem?_drop, List.getElem?_drop]
      simp only [List.length_take]
      congr 1
      omega

theorem grownBy_trans {w w1 w2 : World} {r : Option Nat} (h1 : w.grownBy w1 r) (h2 : w1.grownBy w2 r) : w.grownBy w2 r :=
  ⟨h2.os.trans h1.os, h2.tape.trans h1.tape, h2.output.trans h1.output, Nat.le_trans h1.size h2.size, fun k hk hn => (h2.block k (Nat.lt_of_lt_of_le hk h1.size) hn).trans (h1.block k hk hn)⟩

end Go.Proofs.YtlimollpocagiaaGreatDoor

namespace Go.Proofs.YtlimollpocagiaaGreatDoor
open Go.RowKit

theorem infoI64 : (Tryz.prog.info? 3).map (fun i => (i.zero, i.size, i.bytes)) = some (some (.int .i64 0), 1, 8) := by kernel_rfl

set_option maxHeartbeats 400000 in
theorem toIntS_any (v : Value) (zs : List Int) (w : World) (h : Rd .i64 w v zs) (hn : zs.length ≤ 17592186044416) :
    Calls Tryz.prog 18 #[v] w fun e w' => ∃ v', e = .returned v' ∧ w'.ownsRow w.heap.size 3 1 v' zs.length (zs.map (Value.int .i64)) ∧ Below w.heap.size w w' := by
  obtain ⟨i0, hi, hz0, hz1, hz2⟩ := info_parts infoI64
  have hm := h.len
  have hnm : zs.length ≤ 9223372036854775807 := by omega
  rcases h.parts with ⟨a, cap, rfl, hlow⟩ | ⟨b, off, cap, rfl, hbw, hcell⟩
  all_goals
    clear h
    go_enter Tryz.func18, Tryz.ntmps18
    go_wp2_with (refine wpList_make_full _ rfl (.tmp 6) (.tmp 6) 29 rfl w.heap.size 3 i0 (.int .i64 0) 1 Tryz.underlying29 hi hz0 hz1 .i64 .i64 zs.length zs.length zs.length rfl rfl rfl rfl (by rw [hz2]; omega) hm (Nat.le_refl _) ?_; intro w1 hown hgrow; rw [made_one _ _ rfl] at hown)
    have hb1 : Below w.heap.size w w1 := (Below.refl _ _).grown hgrow (Nat.le_refl _) (fun k h => by cases h)
    clear hgrow
    go_loopw [4] (fun i wr => ∃ k : Nat, k ≤ zs.length ∧ i = .int .i64 k ∧ wr.ownsRow w.heap.size 3 1 (.slice (some ⟨w.heap.size, 0, none⟩) zs.length zs.length) zs.length ((zs.map (Value.int .i64)).take k ++ List.replicate (zs.length - k) (.int .i64 0)) ∧ Below w.heap.size w wr) (fun i _ => zs.length - (intOf i).toNat)
    case atStart => exact ⟨0, Nat.zero_le _, rfl, by simpa using hown, hb1⟩
    case round =>
      clear hown hb1
      obtain ⟨k, hk, rfl, hown, hb1⟩ := hrel
      by_cases hlt : k < zs.length
      · first
        | omega
        | (have hcx : wr.cell? ⟨b, off + k, none⟩ = some (.int .i64 (zs.getD k 0)) := (hb1.cell (p := ⟨b, off + k, none⟩) hbw).trans (hcell k hlt)
           have hzk : zs[k]? = some (zs.getD k 0) := by simp [List.getD, hlt]
           generalize zs.getD k 0 = z at hcx hzk
           have hst := hown.stored k (.int .i64 z)
           have hfr := hown.frozenAt k
           have hco : wr.cell? ⟨w.heap.size, k, none⟩ = some (.int .i64 0) := by
             rw [hown.cellAt k (by omega), List.getElem?_append_right (by simp; omega), List.getElem?_replicate, if_pos (by simp; omega)]
           have HS : Hid ((wr.setCell ⟨w.heap.size, k, none⟩ (.int .i64 z)).ownsRow w.heap.size 3 1 (.slice (some ⟨w.heap.size, 0, none⟩) zs.length zs.length) zs.length ((zs.map (Value.int .i64)).take (k + 1) ++ List.replicate (zs.length - (k + 1)) (.int .i64 0)) ∧ Below w.heap.size w (wr.setCell ⟨w.heap.size, k, none⟩ (.int .i64 z))) := by
             refine ⟨?_, hb1.setCell (Nat.le_refl _) _⟩
             rw [← set_fill (zs.map (Value.int .i64)) (.int .i64 z) (.int .i64 0) k zs.length hlt (by simp) (by simp [hzk])]
             exact hst.1
           clear hst hown hb1 hzk
           go_wp2
           go_roundw
           case rel => exact ⟨k + 1, by omega, by go_num, HS.out.1, HS.out.2⟩
           case measure => simp [intOf]; omega)
      · go_wp2
        go_ret
        refine ⟨_, rfl, ?_, hb1⟩
        have : k = zs.length := by omega
        subst this
        have e : (zs.map (Value.int .i64)).take zs.length = zs.map (Value.int .i64) := List.take_of_length_le (by simp)
        rw [e] at hown
        simpa using hown

set_option maxHeartbeats 400000 in
theorem eqIntS_any (v1 v2 : Value) (xs ys : List Int) (w : World) (h1 : Rd .i64 w v1 xs) (h2 : Rd .i64 w v2 ys) :
    Calls Tryz.prog 21 #[v1, v2] w fun e w' => e = .returned (.bool (decide (xs = ys))) ∧ Below w.heap.size w w' := by
  have hm := h1.len
  have hm2 := h2.len
  unfold maxLen at hm hm2
  by_cases hlen : xs.length = ys.length
  · have p1 : At .i64 w v1 xs.length xs := h1.parts
    have p2 : At .i64 w v2 ys.length ys := h2.parts
    rw [← hlen] at p2
    have HL : Hid (xs.length = ys.length) := hlen
    clear hlen h1 h2 hm2
    generalize hn : xs.length = n at *
    have HN : Hid (xs.length = n) := hn
    clear hn
    rcases p1 with ⟨a1, cap1, rfl, hlow⟩ | ⟨b1, off1, cap1, rfl, hbw1, hcell1⟩ <;> rcases p2 with ⟨a2, cap2, rfl, hlow2⟩ | ⟨b2, off2, cap2, rfl, hbw2, hcell2⟩
    all_goals
      go_enter Tryz.func21, Tryz.ntmps21
      go_wp2
      go_loopw [5] (fun i wr => ∃ k nq : Nat, k ≤ n ∧ i = .int .i64 k ∧ wr = w.drewN nq ∧ xs.take k = ys.take k) (fun i _ => n - (intOf i).toNat)
      case atStart => exact ⟨0, 0, Nat.zero_le _, rfl, rfl, rfl⟩
      case round =>
        obtain ⟨k, nq, hk, rfl, rfl, ht⟩ := hrel
        have HT : Hid (xs.take k = ys.take k) := ht
        clear ht
        by_cases hlt : k < n
        · first
          | omega
          | (have c1 := hcell1 k hlt
             have c2 := hcell2 k hlt
             have HX : Hid (xs.getD k 0 = ys.getD k 0 → xs.take (k + 1) = ys.take (k + 1)) := fun he => take_eq_step xs ys k (by have := HN.out; omega) (by have := HL.out; omega) HT.out he
             have HY : Hid (xs.getD k 0 ≠ ys.getD k 0 → ¬ xs = ys) := fun he h => he (by rw [h])
             generalize xs.getD k 0 = x at c1 HX HY
             generalize ys.getD k 0 = y at c2 HX HY
             have hlt' : (k : Int) < (n : Int) := by omega
             clear hcell1 hcell2
             by_cases hxy : x = y
             · have hq : (x != y) = false := by simp [hxy]
               have HXY : Hid (x = y) := hxy
               clear hxy
               go_wp2
               go_quiet (fail)
               go_wp2
               go_roundw
               case rel => exact ⟨k + 1, _, by omega, by go_num, rfl, HX.out HXY.out⟩
               case measure => simp [intOf]; omega
             · have hq : (x != y) = true := by simpa using hxy
               have HXY : Hid (x ≠ y) := hxy
               clear hxy
               go_wp2
               go_quiet (fail)
               go_wp2
               go_ret
               exact ⟨ret_bool (by have := HY.out HXY.out; simp [this]), below_drewN (below_drewN (Below.refl _ _) _) _⟩)
        · go_wp2
          go_ret
          have : k = n := by omega
          subst this
          have e1 := HT.out
          rw [List.take_of_length_le (by have := HN.out; omega), List.take_of_length_le (by have := HL.out; omega)] at e1
          exact ⟨ret_bool (by simp [e1]), below_drewN (Below.refl _ _) _⟩
  · obtain ⟨a1, cap1, rfl, _, _⟩ := h1
    obtain ⟨a2, cap2, rfl, _, _⟩ := h2
    have hq : ((xs.length : Int) == (ys.length : Int)) = false := by simp; omega
    have HF : Hid (¬ xs = ys) := fun h => hlen (by rw [h])
    clear hlen
    go_enter Tryz.func21, Tryz.ntmps21
    go_wp2
    go_ret
    exact ⟨ret_bool (by simp [HF.out]), Below.refl _ _⟩
set_option maxHeartbeats 400000 in
theorem markIntS_any (v : Value) (base n k0 : Nat) (xs : List Value) (w : World) (h : w.ownsRow base 3 1 v n xs) (hn : n ≤ 140737488355328) (hk0 : k0 ≤ 140737488355328) :
    Calls Tryz.prog 23 #[v, .int .i64 k0] w fun e w' => e = .returned (.int .i64 ((k0 + n : Nat) : Int)) ∧ w'.ownsRow base 3 1 v n ((mk64 k0 n).map (Value.int .i64)) ∧ w.grownBy w' v.ownBlock := by
  rcases h.2 with ⟨rfl, rfl⟩ | ⟨g, cap, cur, rfl, hb, hg, hnc, hcm, hcs, htake⟩
  · clear h
    go_enter Tryz.func23, Tryz.ntmps23
    go_wp2
    refine wp_loop_rounds 1 ?_
    rw [rounds_succ]
    go_wp2
    go_ret
    exact ⟨rfl, World.ownsRow_nil _ _ _ _, World.grownBy.refl _ _⟩
  · have hown : w.ownsRow base 3 1 (.slice (some ⟨g, 0, none⟩) n cap) n xs := h
    have hxl : xs.length = n := by have := h.1; omega
    clear h hg hcs htake hb
    go_enter Tryz.func23, Tryz.ntmps23
    go_wp2
    go_loopw [1, 5] (fun q i wr => ∃ k : Nat, k ≤ n ∧ i = .int .i64 k ∧ q = .int .i64 ((k0 + k : Nat) : Int) ∧ wr.ownsRow base 3 1 (.slice (some ⟨g, 0, none⟩) n cap) n (((mk64 k0 n).map (Value.int .i64)).take k ++ xs.drop k) ∧ w.grownBy wr (some g)) (fun _ i _ => n - (intOf i).toNat)
    case atStart => exact ⟨0, Nat.zero_le _, rfl, rfl, by simpa using hown, World.grownBy.refl _ _⟩
    case round =>
      clear hown
      obtain ⟨k, hk, rfl, rfl, hown, hgr⟩ := hrel
      by_cases hlt : k < n
      · have hst := hown.stored k (.int .i64 ((k0 + k : Nat) : Int))
        have hfr := hown.frozenAt k
        obtain ⟨old, hco⟩ : ∃ u, wr.cell? ⟨g, k, none⟩ = some u := by
          rw [hown.cellAt k (by omega)]
          exact ⟨_, List.getElem?_eq_getElem (by simp [mk64_len]; omega)⟩
        have HS : Hid ((wr.setCell ⟨g, k, none⟩ (.int .i64 ((k0 + k : Nat) : Int))).ownsRow base 3 1 (.slice (some ⟨g, 0, none⟩) n cap) n (((mk64 k0 n).map (Value.int .i64)).take (k + 1) ++ xs.drop (k + 1)) ∧ w.grownBy (wr.setCell ⟨g, k, none⟩ (.int .i64 ((k0 + k : Nat) : Int))) (some g)) := by
          refine ⟨?_, grownBy_trans hgr hst.2⟩
          rw [← set_over ((mk64 k0 n).map (Value.int .i64)) xs (.int .i64 ((k0 + k : Nat) : Int)) k n hlt (by simp [mk64_len]) hxl (by simp [mk64_get k0 n k hlt])]
          exact hst.1
        clear hst hown hgr hxl
        generalize hq : k0 + k = q at *
        have HQ : Hid (k0 + k = q) := hq
        have hql : q ≤ 281474976710656 := by omega
        clear hq
        go_wp2
        go_roundw
        case rel => exact ⟨k + 1, by omega, by go_num, by rw [← Nat.add_assoc, HQ.out]; go_num, HS.out.1, HS.out.2⟩
        case measure => simp [intOf]; omega
      · go_wp2
        go_ret
        have : k = n := by omega
        subst this
        have e : ((mk64 k0 k).map (Value.int .i64)).take k = (mk64 k0 k).map (Value.int .i64) := List.take_of_length_le (by simp [mk64_len])
        rw [e, List.drop_of_length_le (by omega)] at hown
        exact ⟨rfl, by simpa using hown, hgr⟩

set_option maxHeartbeats 400000 in
theorem heldIntS_any (v : Value) (n k0 : Nat) (w : World) (h : Rd .i64 w v (mk64 k0 n)) (hn : n ≤ 140737488355328) (hk0 : k0 ≤ 140737488355328) :
    Calls Tryz.prog 54 #[v, .int .i64 k0] w fun e w' => e = .returned (.int .i64 ((k0 + n : Nat) : Int)) ∧ w' = w := by
  have hp := h.parts
  rw [mk64_len] at hp
  rcases hp with ⟨a, cap, rfl, hlow⟩ | ⟨b, off, cap, rfl, hbw, hcell⟩
  all_goals
    clear h
    go_enter Tryz.func54, Tryz.ntmps54
    go_wp2
    go_loop [1, 5] (fun q i => ∃ k : Nat, k ≤ n ∧ i = .int .i64 k ∧ q = .int .i64 ((k0 + k : Nat) : Int)) (fun _ i => n - (intOf i).toNat)
    case atStart => exact ⟨0, Nat.zero_le _, rfl, rfl⟩
    case round =>
      obtain ⟨k, hk, rfl, rfl⟩ := hrel
      by_cases hlt : k < n
      · first
        | omega
        | (have c1 := hcell k hlt
           rw [mk64_getD k0 n k hlt] at c1
           clear hcell
           generalize hq : k0 + k = q at *
           have HQ : Hid (k0 + k = q) := hq
           have hql : q ≤ 281474976710656 := by omega
           clear hq
           go_wp2
           go_round
           case rel => exact ⟨k + 1, by omega, by go_num, by rw [← Nat.add_assoc, HQ.out]; go_num⟩
           case measure => simp [intOf]; omega)
      · go_wp2
        go_ret
        have : k = n := by omega
        subst this
        exact ⟨rfl, rfl⟩

theorem eqIntS_same (v1 v2 : Value) (xs : List Int) (w : World) (h1 : Rd .i64 w v1 xs) (h2 : Rd .i64 w v2 xs) :
    Calls Tryz.prog 21 #[v1, v2] w fun e w' => e = .returned (.bool true) ∧ Below w.heap.size w w' := by
  refine (eqIntS_any v1 v2 xs xs w h1 h2).mono ?_
  rintro e w' ⟨rfl, hb⟩
  exact ⟨by simp, hb⟩
end Go.Proofs.YtlimollpocagiaaGreatDoor
