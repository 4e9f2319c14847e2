/- errors.as, errors.As and codeOf walked at a chain of faults: the code of the form fault at its end. -/
import Derived.Test.YtnljpaohkkdjjaaGreatDoorAs
namespace Go.Proofs.YtnljpaohkkdjjaaGreatDoor
open Go.RowKit Go.Extern.Stop Go.Stop Go.Extern

theorem hit_after {w w' : World} {bt e : Nat} {c : Int} (ht : w.cell? ⟨bt, 0, none⟩ = some (.pointer none)) (he : w.cell? ⟨e, 0, none⟩ = some (.int .i64 c))
    (hb : Below w.heap.size (w.setCell ⟨bt, 0, none⟩ (.pointer (some ⟨e, 0, none⟩))) w') :
    w'.cell? ⟨bt, 0, none⟩ = some (.pointer (some ⟨e, 0, none⟩)) ∧ w'.cell? ⟨e, 0, none⟩ = some (.int .i64 c) ∧ w.grownBy w' (some bt) := by
  have hne : (⟨bt, 0, none⟩ : Addr) ≠ ⟨e, 0, none⟩ := by
    intro h
    rw [h, he] at ht
    simp at ht
  refine ⟨?_, ?_, ?_⟩
  · rw [hb.cell (p := ⟨bt, 0, none⟩) (cell_lt ht)]
    exact World.cell?_setCell_same _ _ _ ht
  · rw [hb.cell (p := ⟨e, 0, none⟩) (cell_lt he), World.cell?_setCell_other _ _ _ _ hne]
    exact he
  · refine ⟨hb.os, hb.tape, hb.output, Nat.le_trans (by simp) hb.size, fun k hk hn => ?_⟩
    rw [hb.block k hk]
    exact Below.heap_setCell w _ _ k (fun h => hn (by rw [h]))
theorem grownBy_pre {B : Nat} {w w1 w' : World} {bt : Nat} (hb : Below B w w1) (hB : w.heap.size ≤ B) (hg : w1.grownBy w' (some bt)) : w.grownBy w' (some bt) :=
  ⟨hg.os.trans hb.os, hg.tape.trans hb.tape, hg.output.trans hb.output, Nat.le_trans hb.size hg.size, fun k hk hn => (hg.block k (Nat.lt_of_lt_of_le hk hb.size) hn).trans (hb.block k (Nat.lt_of_lt_of_le hk hB))⟩

set_option maxRecDepth 100000 in
set_option maxHeartbeats 2000000 in
theorem as_any (n : Nat) (v tgt : Value) (c : Int) (lo bt : Nat) (a : Addr) (w : World) (hv : Flt w lo n v c)
    (ha : w.cell? a = some (.pointer (some ⟨bt, 0, none⟩))) (ht : w.cell? ⟨bt, 0, none⟩ = some (.pointer none)) (hf : w.frozen? ⟨bt, 0, none⟩ = false) :
    Calls Tryz.prog 42 #[v, tgt, .agg #[.pointer (some ⟨9, 66, none⟩), .pointer (some a), .int .u64 150], .iface 94 (.agg #[.pointer (some ⟨9, 51, none⟩)])] w
      fun ev w' => ev = .returned (.bool true) ∧ ∃ e, w'.cell? ⟨bt, 0, none⟩ = some (.pointer (some ⟨e, 0, none⟩)) ∧ w'.cell? ⟨e, 0, none⟩ = some (.int .i64 c) ∧ w.grownBy w' (some bt) := by
  have hal := cell_lt ha
  have htl : bt < w.heap.size := cell_lt ht
  have h125 := @run_callFunc_extern Tryz.prog 46 _ ReflectliteType.typeOf Tryz.func46 (by kernel_rfl) (by kernel_rfl) (by kernel_rfl) (by kernel_rfl)
  have h152 := @run_callFunc_extern Tryz.prog 129 _ (ReflectliteType.relation "AssignableTo" ReflectliteType.assignableTo) Tryz.func129 (by kernel_rfl) (by kernel_rfl) (by kernel_rfl) (by kernel_rfl)
  have h126 := @run_callFunc_extern Tryz.prog 47 _ (ReflectliteValue.method (ReflectliteValue.valueError "reflectlite.Value.Elem" 0) ReflectliteValue.elem) Tryz.func47 (by kernel_rfl) (by kernel_rfl) (by kernel_rfl) (by kernel_rfl)
  have h127 := @run_callFunc_extern Tryz.prog 48 _ ReflectliteValue.set Tryz.func48 (by kernel_rfl) (by kernel_rfl) (by kernel_rfl) (by kernel_rfl)
  have h116 := @run_callFunc_extern Tryz.prog 39 _ (fun args => ReflectliteValue.unpack (args.getD 0 (.tuple #[]))) Tryz.func39 (by kernel_rfl) (by kernel_rfl) (by kernel_rfl) (by kernel_rfl)
  have tE := rl_typeOfE
  have tP := rl_typeOfP
  have mA := rl_methodAssignableTo
  have aE := rl_assignableE
  have aP := rl_assignableP
  have vE := rl_valueOfE
  have nA := rl_noAs
  have hU := rl_hasUnwrap
  have mU := rl_methodUnwrap
  go_enter Tryz.func42, Tryz.ntmps42
  go_wp2
  go_loopg [0] n (fun k u wr => wr = w.alloc (.cells #[.pointer (some ⟨9, 66, none⟩), .pointer (some a), .int .u64 150] 76) ∧ Flt w lo k u c)
  case atStart => exact ⟨rfl, hv⟩
  case round =>
    obtain ⟨rfl, hk⟩ := hrel
    cases gk with
    | zero =>
      obtain ⟨b, rfl, hl, hc⟩ := hk
      have el := rl_elemV a ⟨bt, 0, none⟩ (w.alloc (.cells #[.pointer (some ⟨9, 66, none⟩), .pointer (some a), .int .u64 150] 76)) (by rw [World.cell?_alloc_lt _ _ a hal]; exact ha)
      have st := rl_set ⟨bt, 0, none⟩ ⟨w.heap.size + 1, 0, none⟩ ⟨b, 0, none⟩ (.pointer none) ((w.alloc (.cells #[.pointer (some ⟨9, 66, none⟩), .pointer (some a), .int .u64 150] 76)).alloc (.cells #[.pointer (some ⟨b, 0, none⟩)] 51))
        (by rw [World.cell?_alloc_at _ _ _ _ (by simp)]; rfl)
        (by rw [World.cell?_alloc_lt _ _ ⟨bt, 0, none⟩ (by simp; omega), World.cell?_alloc_lt _ _ ⟨bt, 0, none⟩ htl]; exact ht)
        (by rw [World.frozen?_alloc_old _ _ ⟨bt, 0, none⟩ (by simp; omega), World.frozen?_alloc_old _ _ ⟨bt, 0, none⟩ (Nat.ne_of_lt htl)]; exact hf)
      have HC : Hid (w.cell? ⟨b, 0, none⟩ = some (.int .i64 c) ∧ w.cell? ⟨bt, 0, none⟩ = some (.pointer none)) := ⟨hc, ht⟩
      clear hc hv ha ht hf
      go_wp2
      go_ret
      exact ⟨rfl, b, hit_after HC.out.2 HC.out.1 (((Below.refl _ _).alloc (by simp) _).alloc (by simp) _)⟩
    | succ m =>
      obtain ⟨b, v', rfl, hl, hc, hr⟩ := hk
      obtain ⟨t', x', rfl⟩ := hr.iface
      have HR : Hid (Flt w lo m (.iface t' (.pointer (some x'))) c) := hr
      have hbl : b < w.heap.size := cell_lt hc
      clear hr hv
      go_wp2_with (go_at_call 140; refine (unwrap_any b (.iface t' (.pointer (some x'))) _ (by rw [World.cell?_alloc_lt _ _ ⟨b, 1, none⟩ hbl]; exact hc)).mono ?_; rintro e w' ⟨rfl, rfl⟩)
      go_roundg m
      case measure => omega
      case rel => exact ⟨rfl, HR.out⟩

/-- The variable that errors.As looks at, as the program's text lays it. -/
def ErrT (w : World) : Prop := w.cell? ⟨0, 0, none⟩ = some (.iface 94 (.agg #[.pointer (some ⟨9, 40, none⟩)]))
theorem ErrT.below {w w' : World} (h : ErrT w) (hb : Below w.heap.size w w') : ErrT w' := (hb.cell (p := ⟨0, 0, none⟩) (cell_lt h)).trans h

set_option maxRecDepth 100000 in
set_option maxHeartbeats 2000000 in
theorem As_any (n : Nat) (v : Value) (c : Int) (lo bt : Nat) (w : World) (hv : Flt w lo n v c) (hg : ErrT w)
    (ht : w.cell? ⟨bt, 0, none⟩ = some (.pointer none)) (hf : w.frozen? ⟨bt, 0, none⟩ = false) :
    Calls Tryz.prog 35 #[v, .iface 66 (.pointer (some ⟨bt, 0, none⟩))] w
      fun ev w' => ev = .returned (.bool true) ∧ ∃ e, w'.cell? ⟨bt, 0, none⟩ = some (.pointer (some ⟨e, 0, none⟩)) ∧ w'.cell? ⟨e, 0, none⟩ = some (.int .i64 c) ∧ w.grownBy w' (some bt) := by
  obtain ⟨t', x', rfl⟩ := hv.iface
  have htl : bt < w.heap.size := cell_lt ht
  have hgl : 0 < w.heap.size := cell_lt hg
  have h116 := @run_callFunc_extern Tryz.prog 39 _ (fun args => ReflectliteValue.unpack (args.getD 0 (.tuple #[]))) Tryz.func39 (by kernel_rfl) (by kernel_rfl) (by kernel_rfl) (by kernel_rfl)
  have h117 := @run_callFunc_extern Tryz.prog 40 _ (ReflectliteValue.methodAny (ReflectliteValue.valueError "reflectlite.Value.Type" 0) (fun t _ _ _ => ReflectliteType.toType t)) Tryz.func40 (by kernel_rfl) (by kernel_rfl) (by kernel_rfl) (by kernel_rfl)
  have h118 := @run_callFunc_extern Tryz.prog 41 _ (ReflectliteValue.method (ReflectliteValue.valueError "reflectlite.Value.IsNil" 0) ReflectliteValue.isNil) Tryz.func41 (by kernel_rfl) (by kernel_rfl) (by kernel_rfl) (by kernel_rfl)
  have h142 := @run_callFunc_extern Tryz.prog 121 _ (ReflectliteType.abiMethod fun t => do pure (.int .u8 (← Rtype.kind t))) Tryz.func121 (by kernel_rfl) (by kernel_rfl) (by kernel_rfl) (by kernel_rfl)
  have h154 := @run_callFunc_extern Tryz.prog 131 _ (ReflectliteType.method ReflectliteType.elem) Tryz.func131 (by kernel_rfl) (by kernel_rfl) (by kernel_rfl) (by kernel_rfl)
  have h155 := @run_callFunc_extern Tryz.prog 132 _ (ReflectliteType.relation "Implements" ReflectliteType.implements_) Tryz.func132 (by kernel_rfl) (by kernel_rfl) (by kernel_rfl) (by kernel_rfl)
  have f6 := rl_valueOfT
  have f7 := rl_type
  have mK := rl_methodKind
  have mE := rl_methodElem
  have mI := rl_methodImplements
  have kT := rl_kindT
  have kE := rl_kindE
  have eT := rl_elemT
  have iE := rl_implementsE
  have n8 := rl_isNil ⟨w.heap.size, 0, none⟩ ⟨bt, 0, none⟩ ((w.alloc (.cells #[.pointer (some ⟨bt, 0, none⟩)] 66)).alloc (.cells #[.pointer (some ⟨9, 66, none⟩), .pointer (some ⟨w.heap.size, 0, none⟩), .int .u64 150] 76)) (by simp)
  have hg2 : ((w.alloc (.cells #[.pointer (some ⟨bt, 0, none⟩)] 66)).alloc (.cells #[.pointer (some ⟨9, 66, none⟩), .pointer (some ⟨w.heap.size, 0, none⟩), .int .u64 150] 76)).cell? ⟨0, 0, none⟩ = some (.iface 94 (.agg #[.pointer (some ⟨9, 40, none⟩)])) := by
    rw [World.cell?_alloc_lt _ _ ⟨0, 0, none⟩ (by simp <;> omega), World.cell?_alloc_lt _ _ ⟨0, 0, none⟩ hgl]; exact hg
  have hv2 : Hid (Flt ((w.alloc (.cells #[.pointer (some ⟨bt, 0, none⟩)] 66)).alloc (.cells #[.pointer (some ⟨9, 66, none⟩), .pointer (some ⟨w.heap.size, 0, none⟩), .int .u64 150] 76)) lo n (.iface t' (.pointer (some x'))) c) :=
    hv.below (((Below.refl _ _).alloc (Nat.le_refl _) _).alloc (by simp) _)
  clear hg
  go_enter Tryz.func35, Tryz.ntmps35
  go_wp2_with (go_at_call 42; refine (as_any n _ _ c lo bt ⟨w.heap.size, 0, none⟩ _ hv2.out (by simp) (by rw [World.cell?_alloc_lt _ _ ⟨bt, 0, none⟩ (by simp; omega), World.cell?_alloc_lt _ _ ⟨bt, 0, none⟩ htl]; exact ht) (by rw [World.frozen?_alloc_old _ _ ⟨bt, 0, none⟩ (by simp; omega), World.frozen?_alloc_old _ _ ⟨bt, 0, none⟩ (Nat.ne_of_lt htl)]; exact hf)).mono ?_; rintro e w' ⟨rfl, e0, r1, r2, r3⟩)
  go_ret
  exact ⟨rfl, e0, r1, r2, grownBy_pre (((Below.refl w.heap.size w).alloc (Nat.le_refl _) _).alloc (by simp) _) (Nat.le_refl _) r3⟩

theorem codeOf_nil (w : World) : Calls Tryz.prog 23 #[.nilIface] w fun e w' => e = .returned (.int .i64 0) ∧ w' = w := by
  go_enter Tryz.func23, Tryz.ntmps23
  go_wp2
  go_ret
  exact ⟨rfl, rfl⟩

set_option maxHeartbeats 1000000 in
theorem codeOf_any (n : Nat) (v : Value) (c : Int) (lo : Nat) (w : World) (hv : Flt w lo n v c) (hg : ErrT w) :
    Calls Tryz.prog 23 #[v] w fun e w' => e = .returned (.int .i64 c) ∧ Below w.heap.size w w' := by
  obtain ⟨t', x', rfl⟩ := hv.iface
  have hb0 : Below w.heap.size w (w.alloc (.cells #[.pointer none] 51)) := (Below.refl _ _).alloc (Nat.le_refl _) _
  have HV : Hid (Flt (w.alloc (.cells #[.pointer none] 51)) lo n (.iface t' (.pointer (some x'))) c ∧ ErrT (w.alloc (.cells #[.pointer none] 51))) := ⟨hv.below hb0, hg.below hb0⟩
  clear hv hg
  go_enter Tryz.func23, Tryz.ntmps23
  go_wp2_with (go_at_call 35; refine (As_any n _ c lo w.heap.size _ HV.out.1 HV.out.2 (by simp) (by simp)).mono ?_; rintro e w' ⟨rfl, e0, r1, r2, r3⟩)
  go_ret
  refine ⟨rfl, ?_⟩
  exact hb0.grown r3 (by simp) (fun k h => by cases h; exact Nat.le_refl _)
end Go.Proofs.YtnljpaohkkdjjaaGreatDoor
