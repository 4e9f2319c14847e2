/- The program: barrier, crash, and the deferred closure that ends a power failure. -/
import Derived.Test.YthghibopnnjboaaZi36
import Derived.Defers
import Derived.Recover
import Derived.Laws.Pointers
namespace Go.Proofs.Ythghibopnnjboaa
set_option linter.unusedVariables false
set_option linter.unusedSimpArgs false
open Go.RowKit

theorem pf_nil (w : World) : Calls Try.prog 44 #[.nilIface] w fun e w' => e = .returned (.bool false) ∧ w' = w := by
  go_enter Try.func44, Try.ntmps44
  go_wp2
  go_ret
  exact ⟨rfl, rfl⟩
theorem assertPower (xT : TypeId) (w : World) : (Instr.typeAssert powerV xT 85 true).run Try.prog w = .ok (.tuple #[.agg #[], .bool true]) w := by kernel_rfl
set_option maxRecDepth 100000 in
theorem pf_power (w : World) : Calls Try.prog 44 #[powerV] w fun e w' => e = .returned (.bool true) ∧ Below w.heap.size w w' := by
  have ha := assertPower
  unfold powerV at ha ⊢
  have HB := hide (show Below w.heap.size w (w.alloc (.cells #[] 85)) from (Below.refl _ _).alloc (Nat.le_refl _) _)
  go_enter Try.func44, Try.ntmps44
  go_wp2
  go_ret
  exact ⟨rfl, HB.out⟩
theorem survOf_any (v : Value) (hv : v.oneCell' = true) (w : World) : Calls Try.prog 59 #[v] w fun e w' => e = .returned (.func (.func 61) #[] #[.pointer (some ⟨w.heap.size, 0, none⟩)]) ∧ w' = w.alloc (.cells #[v] 22) := by
  have hmf : ∀ (fn : Fn) (first cap : Array Value) (w : World), (Instr.makeFunc fn first cap).run Try.prog w = .ok (.func fn first cap) w := fun _ _ _ _ => rfl
  cases v <;> simp [Value.oneCell'] at hv
  all_goals
    go_enter Try.func59, Try.ntmps59
    go_wp2
    go_ret
    exact ⟨rfl, rfl⟩
section
variable {W : World} {base d : Nat} {vf ve vc : Value} {n : Nat} {F : List Int} {C : List (Nat × List Int)} {fuse : Int} {off : Bool}
set_option maxRecDepth 100000 in
theorem barrierP_any (h : Dev W base d vf ve vc n F (mkW F (byC C)) C fuse off) (hd : base ≤ d) (hn : 0 < n) (hC : C.length ≤ 100000) :
    Calls Try.prog 47 #[.pointer (some ⟨d, 0, none⟩)] W fun e w' => e = .returned (.tuple #[]) ∧ Dev w' base d vf ve (.slice none 0 0) n (mkW F (byC C)) (mkW F (byC C)) [] fuse off ∧ Below base W w' ∧ KpY TyP W w' := by
  have HS := hide (settle_all h hd hn hC)
  have e : keptP (fun _ => true) C C.length = C := by rw [keptP_all, List.take_length]
  rw [e] at HS
  clear h e
  go_enter Try.func47, Try.ntmps47
  go_wp2_with fail
  refine HS.out.mono ?_
  rintro e w1 ⟨rfl, v1, l1, y1⟩
  have H1 := hide (And.intro v1 (And.intro l1 y1))
  clear v1 l1 y1
  go_wp2
  go_end0
  exact ⟨rfl, H1.out.1, H1.out.2.1, H1.out.2.2⟩
set_option maxRecDepth 100000 in
set_option maxHeartbeats 1000000 in
theorem crashP_any (h : Dev W base d vf ve vc n F (mkW F (byC C)) C fuse off) (hd : base ≤ d) (hn : 0 < n) (hC : C.length ≤ 100000) (vch : Value) (ch : List Int) (w0 : World) (hch : Rd .u8 w0 vch ch) (hw0 : Below w0.heap.size w0 W) (hw1 : w0.heap.size ≤ base) (hbd : ∀ z ∈ ch, 0 ≤ z ∧ z < 256) :
    Calls Try.prog 48 #[.pointer (some ⟨d, 0, none⟩), vch] W fun e w' => e = .returned (.tuple #[]) ∧ Dev w' base d vf ve (.slice none 0 0) n (mkW F (keptTo ch (byC C) C.length)) (mkW F (keptTo ch (byC C) C.length)) [] (-1) false ∧ Below base W w' ∧ KpY TyP W w' := by
  have hbW : base ≤ W.heap.size := by have := h.blk.lt; omega
  have b1 : Below W.heap.size W (W.alloc (.cells #[vch] 22)) := (Below.refl _ _).alloc (Nat.le_refl _) _
  have hv1 : vch.oneCell' = true := by obtain ⟨a, cap, e, _⟩ := hch; rw [e]; rfl
  have HS := hide (settle_by (h.below b1) hd hn hC W.heap.size vch ch (Blk.new W _ _) w0 hch (hw0.trans ((Below.refl _ _).alloc (Nat.le_trans hw1 hbW) _)) hw1 hbd)
  rw [keptP_by] at HS
  have HB := hide b1
  have HSv := hide (survOf_any vch hv1 W)
  clear h b1 hch hw0 hbd hv1
  go_enter Try.func48, Try.ntmps48
  go_wp2_with fail
  refine HSv.out.mono ?_
  rintro e w1 ⟨rfl, rfl⟩
  go_wp2_with fail
  refine HS.out.mono ?_
  rintro e w1 ⟨rfl, v1, l1, y1⟩
  have c3 := (v1.blk.cell 3).trans (show _ = some (.int .i64 fuse) from rfl)
  have c4 := (v1.blk.cell 4).trans (show _ = some (.bool off) from rfl)
  have f3 := v1.blk.frozen 3
  have f4 := v1.blk.frozen 4
  have H1 := hide (show Dev ((w1.setCell ⟨d, 3, none⟩ (.int .i64 (-1))).setCell ⟨d, 4, none⟩ (.bool false)) base d vf ve (.slice none 0 0) n (mkW F (keptTo ch (byC C) C.length)) (mkW F (keptTo ch (byC C) C.length)) [] (-1) false ∧ Below base W ((w1.setCell ⟨d, 3, none⟩ (.int .i64 (-1))).setCell ⟨d, 4, none⟩ (.bool false)) ∧ KpY TyP W ((w1.setCell ⟨d, 3, none⟩ (.int .i64 (-1))).setCell ⟨d, 4, none⟩ (.bool false)) from
    ⟨(v1.setFuse (-1)).setOff false, (((HB.out.mono hbW).trans l1).setCell (p := ⟨d, 3, none⟩) hd _).setCell (p := ⟨d, 4, none⟩) hd _, ((((KpY.refl _ _).below HB.out).trans y1).setCell v1.blk (.inl rfl)).setCell (v1.setFuse (-1)).blk (.inl rfl)⟩)
  clear v1 l1 y1
  go_wp2
  go_end0
  exact ⟨rfl, H1.out.1, H1.out.2.1, H1.out.2.2⟩
end
/-- The deferred closure where nothing was thrown. -/
theorem catch_idleP (p : Addr) (w : World) : CallsD Try.prog 43 #[.pointer (some p)] .returning w fun e u' w' => e = .returned (.tuple #[]) ∧ u' = .returning ∧ w' = w := by
  refine callsD_of_wpS Try.func43 rfl fun c₀ cs hu => ?_
  apply wpS_seq
  apply wpS_region
  simp [wpOpsS, go_sem, recoverD, hu, Try.ntmps43, Exit.thenS]
  refine (pf_nil w).mono ?_
  rintro e w1 ⟨rfl, rfl⟩
  simp [Act.put]
  refine wpS_cond (t := false) (by simp [Act.eval, Array.replicate]) ?_
  simp only [Bool.false_eq_true, if_false]
  refine wpS_of_wp (wp_skip ?_)
  cases c₀
  simp_all [bodyPostS, results, Try.results43]
/-- The deferred closure where the power failed: the panic is recovered, the answer is ErrPower. -/
theorem catch_powerP (b : Nat) (x y : Value) (w : World) (hB : Blk w b #[x, y] 55) : CallsD Try.prog 43 #[.pointer (some ⟨b, 0, none⟩)] (.panicking [{ v := powerV, recovered := false }]) w fun e u' w' => e = .returned (.tuple #[]) ∧ u' = .panicking [{ v := powerV, recovered := true }] ∧ ∃ w1, Below w.heap.size w w1 ∧ w' = w1.setRow b #[.int .i64 20, .slice none 0 0] := by
  refine callsD_of_wpS Try.func43 rfl fun c₀ cs hu => ?_
  apply wpS_seq
  apply wpS_region
  have hpf := pf_power w
  simp only [powerV] at hu hpf ⊢
  simp [wpOpsS, go_sem, recoverD, hu, Try.ntmps43, Exit.thenS]
  refine hpf.mono ?_
  rintro e w1 ⟨rfl, b1⟩
  have K1 := hide (hB.below b1 hB.lt)
  have HB := hide b1
  clear hpf b1
  simp [Act.put]
  refine wpS_cond (t := true) (by simp [Act.eval, Array.replicate]) ?_
  simp only [if_true]
  refine wpS_of_wp ?_
  go_wp2_with (first | (refine wpList_store_row rfl 55 _ _ rfl b #[.int .i64 20, .slice none 0 0] rfl rfl 55 _ K1.out infoA2 rfl (oneA _ _ rfl rfl) ?_) | fail)
  simp [bodyPostS, results, Try.results43]
  exact ⟨w1, HB.out, rfl⟩
end Go.Proofs.Ythghibopnnjboaa
