/- The model's source of draws: L01Draw, N, One. -/
import Derived.Test.YtnfgldglpfgmnaaDoorZf04
import Derived.Deep.QuietTactic
import Derived.BigQuiet
namespace Go.Proofs.YtnfgldglpfgmnaaDoor
set_option linter.unusedVariables false
set_option linter.unusedSimpArgs false
open Go.RowKit

/-- Block b is a source over the bytes of v (n of them). -/
def Src (W : World) (b : Nat) (v : Value) (n : Nat) : Prop := ∃ (i : Nat) (x : Int), i ≤ n ∧ 0 ≤ x ∧ x < 18446744073709551616 ∧ Blk W b #[v, .int .i64 (i : Int), .int .u64 x] 57
theorem Src.lt {W : World} {b : Nat} {v : Value} {n : Nat} (h : Src W b v n) : b < W.heap.size := by obtain ⟨_, _, _, _, _, h⟩ := h; exact h.lt
theorem Src.below {W W' : World} {b B : Nat} {v : Value} {n : Nat} (h : Src W b v n) (hb : Below B W W') (hB : b < B) : Src W' b v n := by
  obtain ⟨i, x, h1, h2, h3, h4⟩ := h; exact ⟨i, x, h1, h2, h3, h4.below hb hB⟩
/-- What a draw does to memory: block b alone turns, nothing is laid. -/
def Dr (b : Nat) (W W' : World) : Prop := W.grownBy W' (some b) ∧ W'.heap.size = W.heap.size
theorem Dr.trans {b : Nat} {A B C : World} (h : Dr b A B) (k : Dr b B C) : Dr b A C := ⟨grownBy_trans h.1 k.1, k.2.trans h.2⟩
theorem Dr.under {b : Nat} {w0 w w' : World} (h : Dr b w w') (h0 : Below w0.heap.size w0 w) (hB : w0.heap.size ≤ b) : Below w0.heap.size w0 w' := h0.grown h.1 h0.size (fun k e => by cases e; exact hB)
theorem Dr.own {b : Nat} {W W' : World} {base : Nat} {e : TypeId} {v : Value} {n : Nat} {xs : List Value} (h : Dr b W W') (hr : W.ownsRow base e 1 v n xs) (hb : b < base) : W'.ownsRow base e 1 v n xs :=
  hr.kept h.1 (by
    cases hv : v.ownBlock with
    | none => exact .inl rfl
    | some k => exact .inr (fun e => by have := (hr.lt k hv).1; injection e with e; omega))
theorem Dr.rd {b : Nat} {k : IntKind} {W W' : World} {v : Value} {zs : List Int} (w0 : World) (h : Dr b W W') (hr : Rd k w0 v zs) (h0 : Below w0.heap.size w0 W) (hb : w0.heap.size ≤ b) : Rd k W' v zs := hr.below (h.under h0 hb)

theorem draw_any (v : Value) (zs : List Int) (w : World) (h : Rd .u8 w v zs) (hn : zs.length ≤ 1048576) :
    Calls Tryd.prog 7 #[v] w fun e w' => e = .returned (.pointer (some ⟨w.heap.size, 0, none⟩)) ∧ Src w' w.heap.size v zs.length ∧ Below w.heap.size w w' ∧ w'.heap.size = w.heap.size + 1 := by
  obtain ⟨a, cap, rfl, _⟩ := h
  have HS := hide (show ∀ x : Int, 0 ≤ x → x < 18446744073709551616 → Src (w.alloc (.cells #[.slice a zs.length cap, .int .i64 0, .int .u64 x] 57)) w.heap.size (.slice a zs.length cap) zs.length from fun x h0 h1 => ⟨0, x, by omega, h0, h1, Blk.new w _ _⟩)
  go_enter Tryd.func7, Tryd.ntmps7
  go_wp2
  go_ret
  refine ⟨rfl, ?_, (Below.refl _ _).alloc (Nat.le_refl _) _, by simp⟩
  exact HS.out _ (by omega) (by omega)

theorem u64w (n : Int) : 0 ≤ IntKind.u64.wrap n ∧ IntKind.u64.wrap n < 18446744073709551616 := by
  have : IntKind.u64.wrap n = n % 18446744073709551616 := by simp [IntKind.wrap, IntKind.bits, IntKind.signed]
  rw [this]
  omega
theorem draw_num (y : Int) (k : Nat) (h0 : 0 ≤ y) (h1 : y < 18446744073709551616) (hk0 : 1 ≤ k) (hk : k ≤ 1000000) : wrap64 ((y / 8589934592).tmod (k : Int)) = ((((y / 8589934592) % (k : Int)).toNat : Nat) : Int) ∧ ((y / 8589934592) % (k : Int)).toNat < k := by
  have h2 : 0 ≤ y / 8589934592 := by omega
  have e : (y / 8589934592).tmod (k : Int) = (y / 8589934592) % (k : Int) := Int.tmod_eq_emod_of_nonneg h2
  rw [e]
  have h3 : 0 ≤ (y / 8589934592) % (k : Int) := Int.emod_nonneg _ (by omega)
  have h4 : (y / 8589934592) % (k : Int) < (k : Int) := Int.emod_lt_of_pos _ (by omega)
  generalize (y / 8589934592) % (k : Int) = q at h3 h4
  unfold wrap64
  omega
theorem Dr.one (b n : Nat) (w : World) (u : Value) (o : Nat) : Dr b w ((w.drewN n).setCell ⟨b, o, none⟩ u) :=
  ⟨⟨rfl, rfl, rfl, by simp, fun k hk hne => Below.heap_setCell (w.drewN n) ⟨b, o, none⟩ u k (fun e => hne (by rw [e]))⟩, by simp⟩
theorem Dr.more {b : Nat} {w w' : World} (h : Dr b w w') (u : Value) (o : Nat) : Dr b w (w'.setCell ⟨b, o, none⟩ u) := h.trans (Dr.one b 0 w' u o)

set_option maxRecDepth 100000 in
set_option maxHeartbeats 1000000 in
theorem N_any (b : Nat) (k : Nat) (v : Value) (zs : List Int) (w : World) (h : Src w b v zs.length) (hr : Rd .u8 w v zs) (hbd : ∀ z ∈ zs, 0 ≤ z ∧ z < 256) (hn : zs.length ≤ 1048576) (hk0 : 1 ≤ k) (hk : k ≤ 1000000)
    (hne : 0 < zs.length → ∀ c, v.ownBlock = some c → c ≠ b) :
    Calls Tryd.prog 8 #[.pointer (some ⟨b, 0, none⟩), .int .i64 (k : Int)] w fun e w' => ∃ r : Nat, e = .returned (.int .i64 (r : Int)) ∧ r < k ∧ Src w' b v zs.length ∧ Dr b w w' := by
  obtain ⟨i, x, hi, hx0, hx1, hB⟩ := h
  have c0 := (hB.cell 0).trans (show (#[v, .int .i64 (i : Int), .int .u64 x] : Array Value)[0]? = some v from rfl)
  have c1 := (hB.cell 1).trans (show (#[v, .int .i64 (i : Int), .int .u64 x] : Array Value)[1]? = some (.int .i64 (i : Int)) from rfl)
  have c2 := (hB.cell 2).trans (show (#[v, .int .i64 (i : Int), .int .u64 x] : Array Value)[2]? = some (.int .u64 x) from rfl)
  have f1 := hB.frozen 1
  have f2 := hB.frozen 2
  have KB := hide hB
  clear hB
  by_cases hlt : i < zs.length
  · obtain ⟨cb, off, cap, rfl, hbw, _, _, hcell⟩ := hr.partsC (by omega)
    have hcb : cb ≠ b := hne (by omega) cb rfl
    have cz := hcell i hlt
    have hz := hbd (zs.getD i 0) (by rw [List.getD_eq_getElem?_getD, List.getElem?_eq_getElem hlt, Option.getD_some]; exact List.getElem_mem _)
    generalize zs.getD i 0 = z at cz hz
    obtain ⟨hz0, hz1⟩ := hz
    clear hcell hr hbd hne
    have HF := hide (show ∀ (n : Nat) (y : Int), Src (((w.drewN n).setCell ⟨b, 1, none⟩ (.int .i64 ((i : Int) + 1))).setCell ⟨b, 2, none⟩ (.int .u64 (IntKind.u64.wrap y))) b (.slice (some ⟨cb, off, none⟩) zs.length cap) zs.length ∧ Dr b w (((w.drewN n).setCell ⟨b, 1, none⟩ (.int .i64 ((i : Int) + 1))).setCell ⟨b, 2, none⟩ (.int .u64 (IntKind.u64.wrap y))) from fun n y =>
      ⟨⟨i + 1, _, by omega, (u64w y).1, (u64w y).2, by
        have h1 : Blk (w.drewN n) b _ 57 := KB.out
        exact (h1.set 1 (.int .i64 ((i : Int) + 1))).set 2 (.int .u64 (IntKind.u64.wrap y))⟩, (Dr.one b n w _ 1).more _ 2⟩)
    by_cases hk1 : k = 1
    · subst hk1
      go_enter Tryd.func8, Tryd.ntmps8
      go_wp2
      go_quiet (fail)
      go_wp2
      go_quiet (fail)
      go_wp2
      go_ret
      exact ⟨0, rfl, by omega, (HF.out _ _).1, (HF.out _ _).2⟩
    · have hk2 : 1 < (k : Int) := by omega
      go_enter Tryd.func8, Tryd.ntmps8
      go_wp2
      go_quiet (fail)
      go_wp2
      go_quiet (fail)
      go_wp2
      go_ret
      exact ⟨_, ret_int (draw_num _ k (u64w _).1 (u64w _).2 hk0 hk).1, (draw_num _ k (u64w _).1 (u64w _).2 hk0 hk).2, (HF.out _ _).1, (HF.out _ _).2⟩
  · have hsh : ∃ a cap, v = .slice a zs.length cap := by obtain ⟨a, cap, h1, _⟩ := hr; exact ⟨a, cap, h1⟩
    obtain ⟨a, cap, rfl⟩ := hsh
    have HF := hide (show ∀ (n : Nat) (y : Int), Src ((w.drewN n).setCell ⟨b, 2, none⟩ (.int .u64 (IntKind.u64.wrap y))) b (.slice a zs.length cap) zs.length ∧ Dr b w ((w.drewN n).setCell ⟨b, 2, none⟩ (.int .u64 (IntKind.u64.wrap y))) from fun n y =>
      ⟨⟨i, _, by omega, (u64w y).1, (u64w y).2, by
        have h1 : Blk (w.drewN n) b _ 57 := KB.out
        exact h1.set 2 (.int .u64 (IntKind.u64.wrap y))⟩, Dr.one b n w _ 2⟩)
    have hlt' : ¬ (i : Int) < (zs.length : Int) := by omega
    clear hr hbd hne
    by_cases hk1 : k = 1
    · subst hk1
      go_enter Tryd.func8, Tryd.ntmps8
      go_wp2
      go_quiet (fail)
      go_wp2
      go_ret
      exact ⟨0, rfl, by omega, (HF.out _ _).1, (HF.out _ _).2⟩
    · have hk2 : 1 < (k : Int) := by omega
      go_enter Tryd.func8, Tryd.ntmps8
      go_wp2
      go_quiet (fail)
      go_wp2
      go_ret
      exact ⟨_, ret_int (draw_num _ k (u64w _).1 (u64w _).2 hk0 hk).1, (draw_num _ k (u64w _).1 (u64w _).2 hk0 hk).2, (HF.out _ _).1, (HF.out _ _).2⟩

end Go.Proofs.YtnfgldglpfgmnaaDoor
