/- An operation's cells, its helpers (eqOp, markOp, heldOp), and told at it: the texts of LogB, LogF and LogT that are wanted here. -/
import Derived.Test.YtnljpaohkkdjjaaGreatDoorAs2
import Derived.Test.YtnljpaohkkdjjaaGreatDoorCells
import Derived.Test.YtnljpaohkkdjjaaGreatDoorBytes
import Derived.Test.YtnljpaohkkdjjaaGreatDoorMarks
import Derived.Deep.RegionHeld
import Derived.Deep.RegionHeld3
namespace Go.Proofs.YtnljpaohkkdjjaaGreatDoor
set_option linter.unusedVariables false
set_option linter.unusedSimpArgs false
open Go.RowKit

/-- An operation as cells: five numbers, two names, the slice of its bytes. -/
def opC (K A B U G : Int) (p q : ByteArray) (v : Value) : Array Value := #[.int .i64 K, .int .i64 A, .int .i64 B, .int .i64 U, .int .i64 G, .string p, .string q, v]
theorem infoO8 : (Tryz.prog.info? 24).map (·.size) = some 8 := by kernel_rfl
theorem own_asideO {w : World} {base : Nat} {e : TypeId} {v : Value} {n : Nat} {xs : List Value} (hr : w.ownsRow base e 1 v n xs) (a : Addr) (u : Value) (hb : a.block < base) : (w.setCell a u).ownsRow base e 1 v n xs :=
  hr.kept (w' := w.setCell a u) (row := some a.block) ⟨rfl, rfl, rfl, by simp, fun k hk hne => Below.heap_setCell w a u k (fun e => hne (by rw [e]))⟩ (by
    cases hv : v.ownBlock with
    | none => exact .inl rfl
    | some k => exact .inr (fun e => by have := (hr.lt k hv).1; injection e with e; omega))
theorem eqOp_lit (K A B U G : Int) (p q : ByteArray) (v1 v2 : Value) (zs : List Int) (w : World) (h1 : Rd .u8 w v1 zs) (h2 : Rd .u8 w v2 zs) :
    Calls Tryz.prog 6 #[.agg #[.int .i64 K, .int .i64 A, .int .i64 B, .int .i64 U, .int .i64 G, .string p, .string q, v1], .agg #[.int .i64 K, .int .i64 A, .int .i64 B, .int .i64 U, .int .i64 G, .string p, .string q, v2]] w fun x w' => x = .returned (.bool true) ∧ Below w.heap.size w w' := by
  have H := hide (And.intro h1 h2)
  have hsh : ∃ a cap, v1 = .slice a zs.length cap := by obtain ⟨a, cap, h1, _⟩ := h1; exact ⟨a, cap, h1⟩
  obtain ⟨a, cap, rfl⟩ := hsh
  have hsh : ∃ a cap, v2 = .slice a zs.length cap := by obtain ⟨a, cap, h1, _⟩ := h2; exact ⟨a, cap, h1⟩
  obtain ⟨a2, cap2, rfl⟩ := hsh
  have HB := hide (show ∀ o o2, Below w.heap.size w ((w.alloc o).alloc o2) from fun o o2 => ((Below.refl _ _).alloc (Nat.le_refl _) o).alloc (by simp) o2)
  clear h1 h2
  go_enter Tryz.func6, Tryz.ntmps6
  go_wp2_with (go_at_call 17; refine (eqByteS_same _ _ zs _ (H.out.1.below (HB.out _ _)) (H.out.2.below (HB.out _ _))).mono ?_; rintro e w1 ⟨rfl, b1⟩; have HB2 := hide ((HB.out _ _).trans (b1.mono (HB.out _ _).size)); clear b1)
  go_ret
  exact ⟨rfl, HB2.out⟩
theorem eqOp_same (K A B U G : Int) (p q : ByteArray) (v1 v2 : Value) (zs : List Int) (w : World) (h1 : Rd .u8 w v1 zs) (h2 : Rd .u8 w v2 zs) :
    Calls Tryz.prog 6 #[.agg (opC K A B U G p q v1), .agg (opC K A B U G p q v2)] w fun x w' => x = .returned (.bool true) ∧ Below w.heap.size w w' := eqOp_lit K A B U G p q v1 v2 zs w h1 h2
theorem markOp_lit (K A B U G : Int) (p q : ByteArray) (v : Value) (base n k0 : Nat) (xs : List Value) (w : World) (h : w.ownsRow base 5 1 v n xs) (hn : n ≤ 140737488355328) (hk0 : k0 ≤ 140737488355328) :
    Calls Tryz.prog 7 #[.agg #[.int .i64 K, .int .i64 A, .int .i64 B, .int .i64 U, .int .i64 G, .string p, .string q, v], .int .i64 k0] w fun e w' => e = .returned (.int .i64 ((k0 + n : Nat) : Int)) ∧ w'.ownsRow base 5 1 v n ((mk8 k0 n).map (Value.int .u8)) ∧ w.grownBy w' v.ownBlock := by
  have H := hide h
  have hsh : ∃ a cap, v = .slice a n cap := by rcases h.2 with ⟨rfl, rfl⟩ | ⟨g, cap, _, rfl, _⟩ <;> exact ⟨_, _, rfl⟩
  obtain ⟨a, cap, rfl⟩ := hsh
  clear h
  go_enter Tryz.func7, Tryz.ntmps7
  go_wp2_with (go_at_call 18; refine (markByteS_any _ base n k0 xs _ (H.out.alloc _) hn hk0).mono ?_; rintro e w1 ⟨rfl, o1, g1⟩; have HW := hide (And.intro o1 (grownBy_trans (World.grownBy_alloc _ _ _) g1)); clear o1 g1)
  go_ret
  exact ⟨rfl, HW.out.1, HW.out.2⟩
theorem markOp_any (K A B U G : Int) (p q : ByteArray) (v : Value) (base n k0 : Nat) (xs : List Value) (w : World) (h : w.ownsRow base 5 1 v n xs) (hn : n ≤ 140737488355328) (hk0 : k0 ≤ 140737488355328) :
    Calls Tryz.prog 7 #[.agg (opC K A B U G p q v), .int .i64 k0] w fun e w' => e = .returned (.int .i64 ((k0 + n : Nat) : Int)) ∧ w'.ownsRow base 5 1 v n ((mk8 k0 n).map (Value.int .u8)) ∧ w.grownBy w' v.ownBlock := markOp_lit K A B U G p q v base n k0 xs w h hn hk0
theorem heldOp_lit (K A B U G : Int) (p q : ByteArray) (v : Value) (n k0 : Nat) (w : World) (h : Rd .u8 w v (mk8 k0 n)) (hn : n ≤ 140737488355328) (hk0 : k0 ≤ 140737488355328) :
    Calls Tryz.prog 8 #[.agg #[.int .i64 K, .int .i64 A, .int .i64 B, .int .i64 U, .int .i64 G, .string p, .string q, v], .int .i64 k0] w fun e w' => e = .returned (.int .i64 ((k0 + n : Nat) : Int)) ∧ Below w.heap.size w w' := by
  have H := hide h
  have hsh : ∃ a cap, v = .slice a n cap := by obtain ⟨a, cap, h1, _⟩ := h; rw [mk8_len] at h1; exact ⟨a, cap, h1⟩
  obtain ⟨a, cap, rfl⟩ := hsh
  have HB := hide (show ∀ o, Below w.heap.size w (w.alloc o) from fun o => (Below.refl _ _).alloc (Nat.le_refl _) o)
  clear h
  go_enter Tryz.func8, Tryz.ntmps8
  go_wp2_with (go_at_call 19; refine (heldByteS_any _ n k0 _ (H.out.below (HB.out _)) hn hk0).mono ?_; rintro e w1 ⟨rfl, rfl⟩)
  go_ret
  exact ⟨rfl, HB.out _⟩
theorem heldOp_any (K A B U G : Int) (p q : ByteArray) (v : Value) (n k0 : Nat) (w : World) (h : Rd .u8 w v (mk8 k0 n)) (hn : n ≤ 140737488355328) (hk0 : k0 ≤ 140737488355328) :
    Calls Tryz.prog 8 #[.agg (opC K A B U G p q v), .int .i64 k0] w fun e w' => e = .returned (.int .i64 ((k0 + n : Nat) : Int)) ∧ Below w.heap.size w w' := heldOp_lit K A B U G p q v n k0 w h hn hk0
theorem blk_rangeO {w : World} {b : Nat} {t : TypeId} {C : Array Value} (h : Blk w b C t) : w.rangeAt b 0 C.toList := by
  intro j v hv
  rw [Nat.zero_add, h.cell j]
  simpa using hv

def noOp : Array Value := opC 0 0 0 0 0 ⟨#[]⟩ ⟨#[]⟩ (.slice none 0 0)
theorem opC_one (K A B U G : Int) (p q : ByteArray) (a : Option Addr) (n c : Nat) : (opC K A B U G p q (.slice a n c)).all (·.oneCell') = true := by
  unfold opC
  rw [Array.all_eq_true_iff_forall_mem]
  intro v hv
  simp only [List.mem_toArray, List.mem_cons, List.not_mem_nil, or_false] at hv
  rcases hv with rfl | rfl | rfl | rfl | rfl | rfl | rfl | rfl <;> rfl
theorem noOp_one : noOp.all (·.oneCell') = true := opC_one 0 0 0 0 0 ⟨#[]⟩ ⟨#[]⟩ none 0 0
set_option maxRecDepth 100000 in
set_option maxHeartbeats 1000000 in
theorem toldO_ok (C : Array Value) (w : World) (hx : C.size = 8) (h1 : C.all (·.oneCell') = true) :
    Calls Tryz.prog 14 #[.agg C, .nilIface] w fun e w' => e = .returned (.tuple #[.agg C, .int .i64 0]) ∧ Below w.heap.size w w' := by
  have HZ := hide (show C.size = 8 from hx)
  have kB := (Blk.new w C 24).alloc (.cells noOp 24)
  have kC := Blk.new (w.alloc (.cells C 24)) noOp 24
  rw [World.size_alloc] at kC
  have K := hide (And.intro kB (And.intro kC (((Below.refl w.heap.size w).alloc (Nat.le_refl _) (.cells C 24)).alloc (by simp) (.cells noOp 24))))
  clear kB kC hx
  go_enter Tryz.func14, Tryz.ntmps14
  go_wp2_with (first | (refine wpList_load_row rfl 24 _ rfl w.heap.size rfl 24 C (0, 0) _ K.out.1 Tryz.underlying24 rfl (by rw [HZ.out]; exact infoO8) ?_) | (refine wpList_store_row rfl 24 _ _ rfl (w.heap.size + 1) C rfl rfl 24 _ K.out.2.1 (by rw [HZ.out]; exact infoO8) (by rw [HZ.out]; rfl) h1 ?_))
  refine bodyPost_ret (v := .tuple #[.agg C, .int .i64 0]) ?_ rfl ⟨rfl, below_setRow K.out.2.2 (by omega) _⟩
  exact results_row_tmp rfl _ _ (w.heap.size + 1) 24 C (0, 0) _ _ rfl rfl (K.out.2.1.row _) Tryz.underlying24 rfl (by rw [HZ.out]; exact infoO8)

set_option maxRecDepth 100000 in
set_option maxHeartbeats 2000000 in
theorem toldO_bad (C : Array Value) (lo n : Nat) (v : Value) (c : Int) (w : World) (hx : C.size = 8) (h1 : C.all (·.oneCell') = true) (hv : Flt w lo n v c) (hg : ErrT w) :
    Calls Tryz.prog 14 #[.agg C, v] w fun e w' => e = .returned (.tuple #[.agg noOp, .int .i64 c]) ∧ Below w.heap.size w w' := by
  have HZ := hide (show C.size = 8 from hx)
  have HV := hide (And.intro hv hg)
  obtain ⟨t', x', rfl⟩ := hv.iface
  clear hv hg hx
  go_enter Tryz.func14, Tryz.ntmps14
  have kB := ((Blk.new (w.alloc (.cells C 24)) #[.int .i64 0, .int .i64 0, .int .i64 0, .int .i64 0, .int .i64 0, .string ⟨#[]⟩, .string ⟨#[]⟩, .slice none 0 0] 24).alloc (.cells #[.int .i64 0, .int .i64 0, .int .i64 0, .int .i64 0, .int .i64 0, .string ⟨#[]⟩, .string ⟨#[]⟩, .slice none 0 0] 24))
  have kC := Blk.new ((w.alloc (.cells C 24)).alloc (.cells #[.int .i64 0, .int .i64 0, .int .i64 0, .int .i64 0, .int .i64 0, .string ⟨#[]⟩, .string ⟨#[]⟩, .slice none 0 0] 24)) #[.int .i64 0, .int .i64 0, .int .i64 0, .int .i64 0, .int .i64 0, .string ⟨#[]⟩, .string ⟨#[]⟩, .slice none 0 0] 24
  rw [World.size_alloc] at kB
  rw [World.size_alloc, World.size_alloc] at kC
  have K0 := hide (And.intro kB (And.intro kC ((((Below.refl w.heap.size w).alloc (Nat.le_refl _) (.cells C 24)).alloc (by simp) (.cells #[.int .i64 0, .int .i64 0, .int .i64 0, .int .i64 0, .int .i64 0, .string ⟨#[]⟩, .string ⟨#[]⟩, .slice none 0 0] 24)).alloc (by simp; omega) (.cells #[.int .i64 0, .int .i64 0, .int .i64 0, .int .i64 0, .int .i64 0, .string ⟨#[]⟩, .string ⟨#[]⟩, .slice none 0 0] 24))))
  clear kB kC
  go_wp2
  generalize hW : ((w.alloc (.cells C 24)).alloc (.cells #[.int .i64 0, .int .i64 0, .int .i64 0, .int .i64 0, .int .i64 0, .string ⟨#[]⟩, .string ⟨#[]⟩, .slice none 0 0] 24)).alloc (.cells #[.int .i64 0, .int .i64 0, .int .i64 0, .int .i64 0, .int .i64 0, .string ⟨#[]⟩, .string ⟨#[]⟩, .slice none 0 0] 24) = W at K0 ⊢
  have hWs : W.heap.size = w.heap.size + 3 := by rw [← hW]; simp
  clear hW
  refine wp_region_noPanic ?_
  refine wp_region_held_drew (S := fun w' => Blk w' (w.heap.size + 1 + 1) noOp 24) (by kernel_rfl) (show Blk W.drew (w.heap.size + 1 + 1) noOp 24 from K0.out.2.1) (fun hH => ?_)
  refine wpAnyH_take (i := 0) (oi := _) (v := .agg noOp) rfl (by kernel_rfl) (by kernel_rfl) (by kernel_rfl) (fun _ _ _ h => h) (yieldsIf_load_mid (by rfl) 24 _ rfl (w.heap.size + 1 + 1) 0 rfl noOp.toList _ (fun w' h => blk_rangeO h) Tryz.underlying24 rfl infoO8) hH ?_
  try simp only [Act.put, List.getElem_toArray, List.getElem_cons_zero, List.getElem_cons_succ, List.setIfInBounds_toArray, List.set_cons_zero, List.set_cons_succ]
  refine wpAnyH_take (i := 1) (oi := _) (v := .iface t' (.pointer (some x'))) rfl (by kernel_rfl) (by kernel_rfl) (by kernel_rfl) (fun _ _ _ h => h) (Or.inl ⟨by rfl, fun w' hw' => by rfl⟩) hH ?_
  try simp only [Act.put, List.getElem_toArray, List.getElem_cons_zero, List.getElem_cons_succ, List.setIfInBounds_toArray, List.set_cons_zero, List.set_cons_succ]
  refine wpAnyH_ready (rs := [2]) (by kernel_rfl) (by simp) ?_
  refine AllReadyH.cons (o := _) rfl (fun K hK => ?_) AllReadyH.nil
  go_simp
  refine (codeOf_any n _ c lo _ (HV.out.1.below (K0.out.2.2.drew.mono (by omega))) (HV.out.2.below K0.out.2.2.drew)).mono ?_
  rintro e w5 ⟨rfl, b5⟩
  have s5 : Blk w5 (w.heap.size + 1 + 1) noOp 24 := Blk.below (w := W.drew) K0.out.2.1 b5 (by show _ < W.heap.size; omega)
  have kb5 : Blk w5 (w.heap.size + 1) noOp 24 := Blk.below (w := W.drew) K0.out.1 b5 (by show _ < W.heap.size; omega)
  have HF := hide (And.intro (kb5.row noOp) (below_setRow (g := w.heap.size + 1) (K0.out.2.2.trans ((((Below.refl _ W).drew).trans b5).mono (by show w.heap.size ≤ W.heap.size; omega))) (by omega) noOp))
  have KB5 := hide kb5
  clear b5 kb5
  refine hK.out _ _ s5 (fun hH5 => ?_)
  clear hK K hH
  try simp only [Act.put, List.getElem_toArray, List.getElem_cons_zero, List.getElem_cons_succ, List.setIfInBounds_toArray, List.set_cons_zero, List.set_cons_succ]
  refine wpAnyH_ready (rs := [3]) (by kernel_rfl) (by simp) ?_
  refine AllReadyH.cons (o := _) rfl (fun K hK => ?_) AllReadyH.nil
  rw [if_pos (by rfl)]
  refine wp_store_row 24 _ _ rfl (w.heap.size + 1) noOp rfl rfl 24 _ KB5.out infoO8 rfl noOp_one ?_
  refine hK.out _ _ (show Blk _ _ _ _ from (setRow_block _ _ _ _ (by omega)).trans hH5) (fun hH6 => ?_)
  clear hK K
  try simp only [Act.put, List.getElem_toArray, List.getElem_cons_zero, List.getElem_cons_succ, List.setIfInBounds_toArray, List.set_cons_zero, List.set_cons_succ]
  refine wpAnyH_ready (rs := [4]) (by kernel_rfl) (by simp) ?_
  refine AllReadyH.cons (o := _) rfl (fun K hK => ?_) AllReadyH.nil
  go_simp
  refine hK.out _ _ hH6 (fun hH7 => ?_)
  clear hK K
  try simp only [Act.put, List.getElem_toArray, List.getElem_cons_zero, List.getElem_cons_succ, List.setIfInBounds_toArray, List.set_cons_zero, List.set_cons_succ]
  refine wpAnyH_done (by kernel_rfl) (NoPanic.normal ?_) _
  clear hH5 hH6 hH7 s5
  go_wp2
  refine bodyPost_ret (v := .tuple #[.agg noOp, .int .i64 c]) ?_ rfl ⟨rfl, HF.out.2⟩
  exact results_row_tmp rfl _ _ (w.heap.size + 1) 24 noOp (0, 0) _ _ rfl rfl HF.out.1 Tryz.underlying24 rfl infoO8

end Go.Proofs.YtnljpaohkkdjjaaGreatDoor
