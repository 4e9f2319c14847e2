/- The model's source of draws: L01Draw, N, One. Draws that make memory: the source (Sc), what a drawing call leaves (Dn); Wild; one of a list that was laid. -/
import Derived.Test.YthghibopnnjboaaZi02
import Derived.Test.YthghibopnnjboaaZi01
import Derived.Deep.QuietTactic
import Derived.BigQuiet
namespace Go.Proofs.Ythghibopnnjboaa
set_option linter.unusedVariables false
set_option linter.unusedSimpArgs false
open Go.RowKit

/-- Block b is a source over the bytes of v (n of them). -/
def Src (W : World) (b : Nat) (v : Value) (n : Nat) : Prop := ∃ (i : Nat) (x : Int), i ≤ n ∧ 0 ≤ x ∧ x < 18446744073709551616 ∧ Blk W b #[v, .int .i64 (i : Int), .int .u64 x] 50
theorem Src.lt {W : World} {b : Nat} {v : Value} {n : Nat} (h : Src W b v n) : b < W.heap.size := by obtain ⟨_, _, _, _, _, h⟩ := h; exact h.lt
theorem Src.below {W W' : World} {b B : Nat} {v : Value} {n : Nat} (h : Src W b v n) (hb : Below B W W') (hB : b < B) : Src W' b v n := by
  obtain ⟨i, x, h1, h2, h3, h4⟩ := h; exact ⟨i, x, h1, h2, h3, h4.below hb hB⟩
/-- What a draw does to memory: block b alone turns, nothing is laid. -/
def Dw (b : Nat) (W W' : World) : Prop := W.grownBy W' (some b) ∧ W'.heap.size = W.heap.size
theorem Dw.trans {b : Nat} {A B C : World} (h : Dw b A B) (k : Dw b B C) : Dw b A C := ⟨grownBy_trans h.1 k.1, k.2.trans h.2⟩
theorem Dw.under {b : Nat} {w0 w w' : World} (h : Dw b w w') (h0 : Below w0.heap.size w0 w) (hB : w0.heap.size ≤ b) : Below w0.heap.size w0 w' := h0.grown h.1 h0.size (fun k e => by cases e; exact hB)
theorem Dw.own {b : Nat} {W W' : World} {base : Nat} {e : TypeId} {v : Value} {n : Nat} {xs : List Value} (h : Dw b W W') (hr : W.ownsRow base e 1 v n xs) (hb : b < base) : W'.ownsRow base e 1 v n xs :=
  hr.kept h.1 (by
    cases hv : v.ownBlock with
    | none => exact .inl rfl
    | some k => exact .inr (fun e => by have := (hr.lt k hv).1; injection e with e; omega))
theorem Dw.rd {b : Nat} {k : IntKind} {W W' : World} {v : Value} {zs : List Int} (w0 : World) (h : Dw b W W') (hr : Rd k w0 v zs) (h0 : Below w0.heap.size w0 W) (hb : w0.heap.size ≤ b) : Rd k W' v zs := hr.below (h.under h0 hb)

theorem draw_any (v : Value) (zs : List Int) (w : World) (h : Rd .u8 w v zs) (hn : zs.length ≤ 1048576) :
    Calls Try.prog 5 #[v] w fun e w' => e = .returned (.pointer (some ⟨w.heap.size, 0, none⟩)) ∧ Src w' w.heap.size v zs.length ∧ Below w.heap.size w w' ∧ w'.heap.size = w.heap.size + 1 := by
  obtain ⟨a, cap, rfl, _⟩ := h
  have HS := hide (show ∀ x : Int, 0 ≤ x → x < 18446744073709551616 → Src (w.alloc (.cells #[.slice a zs.length cap, .int .i64 0, .int .u64 x] 50)) w.heap.size (.slice a zs.length cap) zs.length from fun x h0 h1 => ⟨0, x, by omega, h0, h1, Blk.new w _ _⟩)
  go_enter Try.func5, Try.ntmps5
  go_wp2
  go_ret
  refine ⟨rfl, ?_, (Below.refl _ _).alloc (Nat.le_refl _) _, by simp⟩
  exact HS.out _ (by omega) (by omega)

theorem u64w (n : Int) : 0 ≤ IntKind.u64.wrap n ∧ IntKind.u64.wrap n < 18446744073709551616 := by
  have : IntKind.u64.wrap n = n % 18446744073709551616 := by simp [IntKind.wrap, IntKind.bits, IntKind.signed]
  rw [this]
  omega
theorem draw_num (y : Int) (k : Nat) (h0 : 0 ≤ y) (h1 : y < 18446744073709551616) (hk0 : 1 ≤ k) (hk : k ≤ 1000000) : wrap64 ((y / 8589934592).tmod (k : Int)) = ((((y / 8589934592) % (k : Int)).toNat : Nat) : Int) ∧ ((y / 8589934592) % (k : Int)).toNat < k := by
  have h2 : 0 ≤ y / 8589934592 := by omega
  have e : (y / 8589934592).tmod (k : Int) = (y / 8589934592) % (k : Int) := Int.tmod_eq_emod_of_nonneg h2
  rw [e]
  have h3 : 0 ≤ (y / 8589934592) % (k : Int) := Int.emod_nonneg _ (by omega)
  have h4 : (y / 8589934592) % (k : Int) < (k : Int) := Int.emod_lt_of_pos _ (by omega)
  generalize (y / 8589934592) % (k : Int) = q at h3 h4
  unfold wrap64
  omega
theorem Dw.one (b n : Nat) (w : World) (u : Value) (o : Nat) : Dw b w ((w.drewN n).setCell ⟨b, o, none⟩ u) :=
  ⟨⟨rfl, rfl, rfl, by simp, fun k hk hne => Below.heap_setCell (w.drewN n) ⟨b, o, none⟩ u k (fun e => hne (by rw [e]))⟩, by simp⟩
theorem Dw.more {b : Nat} {w w' : World} (h : Dw b w w') (u : Value) (o : Nat) : Dw b w (w'.setCell ⟨b, o, none⟩ u) := h.trans (Dw.one b 0 w' u o)

set_option maxRecDepth 100000 in
set_option maxHeartbeats 1000000 in
theorem N_any (b : Nat) (k : Nat) (v : Value) (zs : List Int) (w : World) (h : Src w b v zs.length) (hr : Rd .u8 w v zs) (hbd : ∀ z ∈ zs, 0 ≤ z ∧ z < 256) (hn : zs.length ≤ 1048576) (hk0 : 1 ≤ k) (hk : k ≤ 1000000)
    (hne : 0 < zs.length → ∀ c, v.ownBlock = some c → c ≠ b) :
    Calls Try.prog 7 #[.pointer (some ⟨b, 0, none⟩), .int .i64 (k : Int)] w fun e w' => ∃ r : Nat, e = .returned (.int .i64 (r : Int)) ∧ r < k ∧ Src w' b v zs.length ∧ Dw b w w' := by
  obtain ⟨i, x, hi, hx0, hx1, hB⟩ := h
  have c0 := (hB.cell 0).trans (show (#[v, .int .i64 (i : Int), .int .u64 x] : Array Value)[0]? = some v from rfl)
  have c1 := (hB.cell 1).trans (show (#[v, .int .i64 (i : Int), .int .u64 x] : Array Value)[1]? = some (.int .i64 (i : Int)) from rfl)
  have c2 := (hB.cell 2).trans (show (#[v, .int .i64 (i : Int), .int .u64 x] : Array Value)[2]? = some (.int .u64 x) from rfl)
  have f1 := hB.frozen 1
  have f2 := hB.frozen 2
  have KB := hide hB
  clear hB
  by_cases hlt : i < zs.length
  · obtain ⟨cb, off, cap, rfl, hbw, _, _, hcell⟩ := hr.partsC (by omega)
    have hcb : cb ≠ b := hne (by omega) cb rfl
    have cz := hcell i hlt
    have hz := hbd (zs.getD i 0) (by rw [List.getD_eq_getElem?_getD, List.getElem?_eq_getElem hlt, Option.getD_some]; exact List.getElem_mem _)
    generalize zs.getD i 0 = z at cz hz
    obtain ⟨hz0, hz1⟩ := hz
    clear hcell hr hbd hne
    have HF := hide (show ∀ (n : Nat) (y : Int), Src (((w.drewN n).setCell ⟨b, 1, none⟩ (.int .i64 ((i : Int) + 1))).setCell ⟨b, 2, none⟩ (.int .u64 (IntKind.u64.wrap y))) b (.slice (some ⟨cb, off, none⟩) zs.length cap) zs.length ∧ Dw b w (((w.drewN n).setCell ⟨b, 1, none⟩ (.int .i64 ((i : Int) + 1))).setCell ⟨b, 2, none⟩ (.int .u64 (IntKind.u64.wrap y))) from fun n y =>
      ⟨⟨i + 1, _, by omega, (u64w y).1, (u64w y).2, by
        have h1 : Blk (w.drewN n) b _ 50 := KB.out
        exact (h1.set 1 (.int .i64 ((i : Int) + 1))).set 2 (.int .u64 (IntKind.u64.wrap y))⟩, (Dw.one b n w _ 1).more _ 2⟩)
    by_cases hk1 : k = 1
    · subst hk1
      go_enter Try.func7, Try.ntmps7
      go_wp2
      go_quiet (fail)
      go_wp2
      go_quiet (fail)
      go_wp2
      go_ret
      exact ⟨0, rfl, by omega, (HF.out _ _).1, (HF.out _ _).2⟩
    · have hk2 : 1 < (k : Int) := by omega
      go_enter Try.func7, Try.ntmps7
      go_wp2
      go_quiet (fail)
      go_wp2
      go_quiet (fail)
      go_wp2
      go_ret
      exact ⟨_, ret_int (draw_num _ k (u64w _).1 (u64w _).2 hk0 hk).1, (draw_num _ k (u64w _).1 (u64w _).2 hk0 hk).2, (HF.out _ _).1, (HF.out _ _).2⟩
  · have hsh : ∃ a cap, v = .slice a zs.length cap := by obtain ⟨a, cap, h1, _⟩ := hr; exact ⟨a, cap, h1⟩
    obtain ⟨a, cap, rfl⟩ := hsh
    have HF := hide (show ∀ (n : Nat) (y : Int), Src ((w.drewN n).setCell ⟨b, 2, none⟩ (.int .u64 (IntKind.u64.wrap y))) b (.slice a zs.length cap) zs.length ∧ Dw b w ((w.drewN n).setCell ⟨b, 2, none⟩ (.int .u64 (IntKind.u64.wrap y))) from fun n y =>
      ⟨⟨i, _, by omega, (u64w y).1, (u64w y).2, by
        have h1 : Blk (w.drewN n) b _ 50 := KB.out
        exact h1.set 2 (.int .u64 (IntKind.u64.wrap y))⟩, Dw.one b n w _ 2⟩)
    have hlt' : ¬ (i : Int) < (zs.length : Int) := by omega
    clear hr hbd hne
    by_cases hk1 : k = 1
    · subst hk1
      go_enter Try.func7, Try.ntmps7
      go_wp2
      go_quiet (fail)
      go_wp2
      go_ret
      exact ⟨0, rfl, by omega, (HF.out _ _).1, (HF.out _ _).2⟩
    · have hk2 : 1 < (k : Int) := by omega
      go_enter Try.func7, Try.ntmps7
      go_wp2
      go_quiet (fail)
      go_wp2
      go_ret
      exact ⟨_, ret_int (draw_num _ k (u64w _).1 (u64w _).2 hk0 hk).1, (draw_num _ k (u64w _).1 (u64w _).2 hk0 hk).2, (HF.out _ _).1, (HF.out _ _).2⟩

end Go.Proofs.Ythghibopnnjboaa

namespace Go.Proofs.Ythghibopnnjboaa
set_option linter.unusedVariables false
set_option linter.unusedSimpArgs false
open Go.RowKit

/-- Block b is a source over the bytes cs that lay at cv in w0, and w0 is as it was. -/
structure Sc (w0 W : World) (b : Nat) (cv : Value) (cs : List Int) : Prop where
  src : Src W b cv cs.length
  hb : w0.heap.size ≤ b
  low : Below w0.heap.size w0 W
  rd : Rd .u8 w0 cv cs
  bd : ∀ z ∈ cs, 0 ≤ z ∧ z < 256
  len : cs.length ≤ 1048576
theorem Sc.own {w0 W W' : World} {b B : Nat} {cv : Value} {cs : List Int} (h : Sc w0 W b cv cs) (hb : Below B W W') (hB : b < B) : Sc w0 W' b cv cs :=
  ⟨h.src.below hb hB, h.hb, h.low.trans (hb.mono (by have := h.hb; omega)), h.rd, h.bd, h.len⟩
theorem Sc.drawn {w0 W W' : World} {b : Nat} {cv : Value} {cs : List Int} (h : Sc w0 W b cv cs) (hd : W.grownBy W' (some b)) (hs : Src W' b cv cs.length) : Sc w0 W' b cv cs :=
  ⟨hs, h.hb, h.low.grown hd h.low.size (fun k e => by cases e; exact h.hb), h.rd, h.bd, h.len⟩
theorem Sc.ne {w0 W : World} {b : Nat} {cv : Value} {cs : List Int} (h : Sc w0 W b cv cs) : 0 < cs.length → ∀ c, cv.ownBlock = some c → c ≠ b := by
  intro h0 c hc
  obtain ⟨a, cap, rfl, _, hcell, _⟩ := h.rd
  obtain ⟨b', off, ea, hlt, _⟩ := hcell (by intro e; rw [e] at h0; simp at h0)
  subst ea
  have : b' = c := Option.some.inj hc
  have := h.hb
  omega
theorem Sc.N {w0 W : World} {b : Nat} {cv : Value} {cs : List Int} (h : Sc w0 W b cv cs) (k : Nat) (hk0 : 1 ≤ k) (hk : k ≤ 1000000) :
    Calls Try.prog 7 #[.pointer (some ⟨b, 0, none⟩), .int .i64 (k : Int)] W fun e w' => ∃ z : Int, e = .returned (.int .i64 z) ∧ 0 ≤ z ∧ z < k ∧ Sc w0 w' b cv cs ∧ W.grownBy w' (some b) := by
  refine (N_any b k cv cs W h.src (h.rd.below h.low) h.bd h.len hk0 hk h.ne).mono ?_
  rintro e w' ⟨r, rfl, hr2, hs, hd⟩
  exact ⟨r, rfl, by omega, by omega, h.drawn hd.1 hs, hd.1⟩
/-- In the midst of a drawing call that began in W. -/
structure Dn (w0 W wr : World) (b : Nat) (cv : Value) (cs : List Int) : Prop where
  sc : Sc w0 wr b cv cs
  gb : W.grownBy wr (some b)
  lt : b < W.heap.size
theorem Dn.start {w0 W : World} {b : Nat} {cv : Value} {cs : List Int} (h : Sc w0 W b cv cs) : Dn w0 W W b cv cs := ⟨h, World.grownBy.refl _ _, h.src.lt⟩
theorem Dn.own {w0 W wr wr' : World} {b : Nat} {cv : Value} {cs : List Int} (h : Dn w0 W wr b cv cs) (hb : Below W.heap.size wr wr') : Dn w0 W wr' b cv cs :=
  ⟨h.sc.own hb h.lt, ⟨hb.os.trans h.gb.os, hb.tape.trans h.gb.tape, hb.output.trans h.gb.output, Nat.le_trans h.gb.size hb.size, fun k hk hne => (hb.block k hk).trans (h.gb.block k hk hne)⟩, h.lt⟩
theorem Dn.draw {w0 W wr wr' : World} {b : Nat} {cv : Value} {cs : List Int} (h : Dn w0 W wr b cv cs) (hs : Sc w0 wr' b cv cs) (hg : wr.grownBy wr' (some b)) : Dn w0 W wr' b cv cs := ⟨hs, grownBy_trans h.gb hg, h.lt⟩
theorem Blk.drawn {wr w' : World} {g b : Nat} {c : Array Value} {t : TypeId} (h : Blk wr g c t) (hg : wr.grownBy w' (some b)) (hne : g ≠ b) : Blk w' g c t := (hg.block g h.lt (fun e => hne (Option.some.inj e))).trans h
theorem Dn.blk {w0 W wr wr' : World} {g b : Nat} {cv : Value} {cs : List Int} {c : Array Value} {t : TypeId} (h : Dn w0 W wr b cv cs) (k : Blk wr g c t) (hg : wr.grownBy wr' (some b)) (hge : W.heap.size ≤ g) : Blk wr' g c t := k.drawn hg (by have := h.lt; omega)

theorem cell_of {w : World} {g : Nat} {L : List Int} {t : TypeId} (h : Blk w g (cellsI L) t) (z : Int) (h0 : 0 ≤ z) (h1 : z < L.length) : ∃ y : Int, w.cell? ⟨g, z.toNat, none⟩ = some (.int .i64 y) :=
  ⟨_, (h.cell z.toNat).trans (cellsI_get L z.toNat (by omega))⟩

theorem Dn.row {w0 W wr wr' : World} {b base : Nat} {cv : Value} {cs : List Int} {e : TypeId} {sz n : Nat} {v : Value} {xs : List Value} (h : Dn w0 W wr b cv cs) (o : wr.ownsRow base e sz v n xs) (hg : wr.grownBy wr' (some b)) (hb : W.heap.size ≤ base) : wr'.ownsRow base e sz v n xs :=
  o.kept hg (by
    cases hv : v.ownBlock with
    | none => exact .inl rfl
    | some k => exact .inr (fun e => by have := (o.lt k hv).1; have := h.lt; injection e with e; omega))
/-- Behind an append to a row of the call's own. -/
theorem Dn.grew {w0 W wr w7 : World} {b base : Nat} {cv : Value} {cs : List Int} {e : TypeId} {sz n : Nat} {v : Value} {xs : List Value} {ob : Obj} (h : Dn w0 W wr b cv cs) (o : wr.ownsRow base e sz v n xs) (hg : (wr.alloc ob).grownBy w7 v.ownBlock) (hb : W.heap.size ≤ base) : Dn w0 W w7 b cv cs :=
  h.own (((Below.refl _ _).alloc h.gb.size _).grown hg (by have := h.gb.size; simp; omega) (fun k e => Nat.le_trans hb (o.lt k e).1))
def lenT : Value → Nat
  | .slice _ n _ => n
  | _ => 0
theorem lenT_own {w : World} {base : Nat} {e : TypeId} {sz : Nat} {v : Value} {n : Nat} {xs : List Value} (h : w.ownsRow base e sz v n xs) : lenT v = n := by
  rcases h.2 with ⟨rfl, rfl⟩ | ⟨g, cap, _, rfl, _⟩ <;> rfl
theorem shape_row {w : World} {base : Nat} {e : TypeId} {sz : Nat} {v : Value} {n : Nat} {xs : List Value} (h : w.ownsRow base e sz v n xs) : ∃ a cap, v = .slice a n cap := by
  rcases h.2 with ⟨rfl, rfl⟩ | ⟨g, cap, _, rfl, _⟩
  · exact ⟨_, _, rfl⟩
  · exact ⟨_, _, rfl⟩
theorem place_row {w : World} {base : Nat} {e : TypeId} {sz : Nat} {v : Value} {n : Nat} {xs : List Value} (h : w.ownsRow base e sz v n xs) (hn : 0 < n) : ∃ g cap, v = .slice (some ⟨g, 0, none⟩) n cap := by
  rcases h.2 with ⟨rfl, rfl⟩ | ⟨g, cap, _, rfl, _⟩
  · omega
  · exact ⟨_, _, rfl⟩
end Go.Proofs.Ythghibopnnjboaa
