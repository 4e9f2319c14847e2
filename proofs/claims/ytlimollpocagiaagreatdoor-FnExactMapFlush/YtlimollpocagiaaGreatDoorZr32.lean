/- The model's flush: rows turned, what it leaves alone. The model's l04Single. The spots at a root that lies at the beginning of a block: topsOf. -/
import Derived.Test.YtlimollpocagiaaGreatDoorZr31
import Derived.Test.YtlimollpocagiaaGreatDoorZr26
import Derived.Test.YtlimollpocagiaaGreatDoorZr14
namespace Go.Proofs.YtlimollpocagiaaGreatDoor
set_option linter.unusedVariables false
set_option linter.unusedSimpArgs false
open Go.RowKit

section
variable {W W' : World} {base b : Nat} {C : Array Value} {R : Nat → Value} {LL : Nat → List Int} {cu sg : Int} {fu : Bool}
/-- A row of a flush turned for another. -/
theorem Fm.put (h : Fm W base b C R LL cu sg fu) {l : Nat} (hl : l < 5) {v' : Value} {L' : List Int} (ho : W'.ownsRow base 3 1 v' L'.length (L'.map (Value.int .i64))) (hg : W.grownBy W' (R l).ownBlock) (hv : v'.ownBlock = (R l).ownBlock ∨ ∃ g, v'.ownBlock = some g ∧ W.heap.size ≤ g) :
    Fm (W'.setCell ⟨b, posM l, none⟩ v') base b (C.setIfInBounds (posM l) v') (upd R l v') (upd LL l L') cu sg fu ∧ KpM W (W'.setCell ⟨b, posM l, none⟩ v') b R (upd R l v') := by
  have hB : Blk W' b C 77 := (hg.block b h.box.lt (fun e => h.ne_box (j := l) hl e.symm)).trans h.box
  have hk1 : ∀ k, k ≠ b → (W'.setCell ⟨b, posM l, none⟩ v').heap[k]? = W'.heap[k]? := fun k hk => Below.heap_setCell W' ⟨b, posM l, none⟩ _ k (fun e => hk e)
  have hkeep : ∀ k, k < W.heap.size → k ≠ b → (R l).ownBlock ≠ some k → (W'.setCell ⟨b, posM l, none⟩ v').heap[k]? = W.heap[k]? := fun k hk hkb hr => (hk1 k hkb).trans (hg.block k hk (fun e => hr e.symm))
  have hvb : v'.ownBlock ≠ some b := own_offF ho hB (by decide)
  refine ⟨⟨hB.set (posM l) _, by simpa using h.size, fun j hj => ?_, fun j hj => ?_, fun i j hi hj hne => ?_, ?_, ?_, ?_⟩, ⟨hg.os, hg.tape, hg.output, by simpa using hg.size, fun k hk hn => hkeep k hk (fun e => hn (.inl e)) (fun e => hn (.inr ⟨l, hl, e⟩)), fun k hk => ?_⟩⟩
  · by_cases e : j = l
    · subst e; rw [upd_same]; rw [Array.getElem?_setIfInBounds_self_of_lt (by have := h.size; have := posM_lt hj; omega)]
    · rw [upd_other _ _ _ _ e, get_set_ne (fun e' => e (posM_inj hj hl e'))]; exact h.at_ j hj
  · by_cases e : j = l
    · subst e
      rw [upd_same, upd_same]
      exact own_kept ho (fun k hk => hk1 k (fun e' => hvb (by rw [hk, e'])))
    · rw [upd_other _ _ _ _ e, upd_other _ _ _ _ e]
      exact own_kept (h.row j hj) (fun k hk => hkeep k ((h.row j hj).lt k hk).2 (fun e' => h.ne_box hj (by rw [hk, e'])) (fun e' => by
        rcases h.apart j l hj hl e with h5 | h5
        · rw [hk] at h5; cases h5
        · exact h5 (hk.trans e'.symm)))
  · have key : ∀ j, j < 5 → j ≠ l → v'.ownBlock = none ∨ v'.ownBlock ≠ (R j).ownBlock := fun j hj hj2 => by
      rcases hv with h3 | ⟨g, h3, h4⟩
      · rw [h3]; exact h.apart l j hl hj (fun e => hj2 e.symm)
      · right
        rw [h3]
        intro e'
        have := ((h.row j hj).lt g e'.symm).2
        omega
    by_cases e : i = l
    · subst e
      rw [upd_same, upd_other _ _ _ _ (fun e => hne e.symm)]
      exact key j hj (fun e => hne e.symm)
    · by_cases e2 : j = l
      · subst e2
        rw [upd_same, upd_other _ _ _ _ e]
        cases hR : (R i).ownBlock with
        | none => exact .inl rfl
        | some k =>
          right
          intro e'
          rcases key i hi e with h5 | h5
          · rw [← e'] at h5; cases h5
          · exact h5 (e'.symm.trans hR.symm)
      · rw [upd_other _ _ _ _ e, upd_other _ _ _ _ e2]; exact h.apart i j hi hj hne
  · rw [get_set_ne (fun e => (posM_lt hl).2.1 e.symm)]; exact h.cur
  · rw [get_set_ne (fun e => (posM_lt hl).2.2.2 e.symm)]; exact h.sing
  · rw [get_set_ne (fun e => (posM_lt hl).2.2.1 e.symm)]; exact h.full
  · rcases ownM_upd hk with h5 | h5
    · exact .inl h5
    · rcases hv with h3 | ⟨g, h3, h4⟩
      · exact .inl (.inr ⟨l, hl, h3.symm.trans h5⟩)
      · rw [h3] at h5; injection h5 with h5; exact .inr (by omega)
/-- A row of another kind is left alone. -/
theorem KpM.other {R' : Nat → Value} (hk : KpM W W' b R R') (h : Fm W base b C R LL cu sg fu) {b1 n : Nat} {e : TypeId} {u : Value} {L : List Value} (hu : W.ownsRow b1 e 1 u n L) (he : e ≠ 3) (he2 : 77 ≠ e) : W'.ownsRow b1 e 1 u n L :=
  own_kept hu (fun k hk2 => hk.block k (hu.lt k hk2).2 (fun hm => by
    rcases hm with rfl | ⟨j, hj, e3⟩
    · exact blk_off hu h.box he2 hk2
    · rcases own_apart hu (h.row j hj) he with h5 | h5
      · rw [hk2] at h5; cases h5
      · exact h5 (hk2.trans e3.symm)))
end
/-- How many places are given, read in memory. -/
def lenG (b : Nat) (W : World) : Nat := match W.cell? ⟨b, 12, none⟩ with
  | some (.slice _ n _) => n
  | _ => 0
theorem lenG_is {W : World} {base b : Nat} {bf D : List Int} {sg : Int} {s : FD × Bool} {R : Nat → Value} (h : FmS W base b bf D sg s R) : lenG b W = s.1.od.length := by
  obtain ⟨C, LL, h1, _, _, _, e3, _⟩ := h
  obtain ⟨a, c, hR⟩ := own_shapeT (h1.row 3 (by omega))
  have h2 : W.cell? ⟨b, 12, none⟩ = some (.slice a (LL 3).length c) := h1.slot (j := 3) (by omega) hR
  unfold lenG
  rw [h2, e3]
  simp
theorem FmS.kbelow {W W' : World} {base b : Nat} {bf D : List Int} {sg : Int} {s : FD × Bool} {R R' : Nat → Value} (h : FmS W base b bf D sg s R) (hk : KpM W W' b R R') (hb : base ≤ b) (hs : base ≤ W.heap.size) : Below base W W' := by
  obtain ⟨C, LL, h1, _⟩ := h
  exact hk.below h1 hb hs
end Go.Proofs.YtlimollpocagiaaGreatDoor

namespace Go.Proofs.YtlimollpocagiaaGreatDoor
set_option linter.unusedVariables false
set_option linter.unusedSimpArgs false
open Go.RowKit

def gM (LL : Nat → List Int) : Nat → Int := fun k => if (LL 2).getD k 0 = 0 then (LL 4).getD k 0 else (LL 2).getD k 0
def farTo (m : Nat) (g : Nat → Int) (N : Nat) : List Int := (List.range N).map fun j => if 12 + j < m then g (12 + j) else 0
theorem farTo_succ (m : Nat) (g : Nat → Int) (N : Nat) : farTo m g (N + 1) = farTo m g N ++ [if 12 + N < m then g (12 + N) else 0] := by
  unfold farTo
  rw [List.range_succ, List.map_append]
  rfl
set_option maxRecDepth 100000 in
set_option maxHeartbeats 1000000 in
theorem single_any (base b m : Nat) (C : Array Value) (R : Nat → Value) (LL : Nat → List Int) (cu sg : Int) (fu : Bool) (w : World) (h : Fm w base b C R LL cu sg fu) (hp : (LL 2).length = m + 1) (hd : ∀ k, k < m → (LL 2).getD k 0 = 0 → k < (LL 4).length) (hm : m ≤ 16) :
    Calls Tryz.prog 39 #[.pointer (some ⟨b, 0, none⟩), .int .i64 (m : Int)] w fun e w' => ∃ v', e = .returned v' ∧ w'.ownsRow w.heap.size 3 1 v' 128 ((farTo m (gM LL) 128).map (Value.int .i64)) ∧ Below w.heap.size w w' := by
  obtain ⟨i0, hi, hz0, hz1, hz2⟩ := info_parts infoI64
  have B1 := hide (show Below w.heap.size w (w.alloc (.cells #[] 3)) from (Below.refl _ _).alloc (Nat.le_refl _) _)
  have HO := hide (show (w.alloc (.cells #[] 3)).ownsRow w.heap.size 3 1 (.slice (some ⟨w.heap.size, 0, none⟩) 0 0) 0 ((farTo m (gM LL) 0).map (Value.int .i64)) from own_emptyM w 3 1)
  have HNow := hide (show ∀ W, Below w.heap.size w W → ∀ k : Nat, k < m → Calls Tryz.prog 84 #[.pointer (some ⟨b, 0, none⟩), .int .i64 (k : Int)] W fun e w' => e = .returned (.int .i64 (gM LL k)) ∧ w' = W from fun W hW k hk => nowM_any base b k C R LL cu sg fu W (h.below hW) (by omega) (hd k hk) (by omega))
  clear h hp hd
  go_enter Tryz.func39, Tryz.ntmps39
  go_wp2
  go_loopw [5, 6] (fun v i wr => ∃ (k : Nat) (xa : Option Addr) (xc : Nat), k ≤ 128 ∧ i = .int .i64 ((12 + k : Nat) : Int) ∧ v = .slice xa k xc ∧ Hid (wr.ownsRow w.heap.size 3 1 (.slice xa k xc) k ((farTo m (gM LL) k).map (Value.int .i64)) ∧ Below w.heap.size w wr)) (fun _ i _ => 140 - (intOf i).toNat)
  case atStart => exact ⟨0, _, _, by omega, rfl, rfl, hide ⟨HO.out, B1.out⟩⟩
  case round =>
    obtain ⟨k, xa, xc, hk, rfl, rfl, HI⟩ := hrel
    obtain ⟨q, hq⟩ : ∃ q : Nat, q = 12 + k := ⟨_, rfl⟩
    rw [← hq]
    have hq1 : 12 ≤ q := by omega
    have HQ := hide hq
    have hws : w.heap.size ≤ wr.heap.size := HI.out.2.size
    by_cases hlt : q < 140
    · have hltI : (q : Int) < 140 := by omega
      have hk2 : k < 128 := by omega
      by_cases hqm : q < m
      · have hqI : (q : Int) < (m : Int) := by omega
        obtain ⟨y, hy⟩ : ∃ y, y = gM LL q := ⟨_, rfl⟩
        have HY := hide hy
        have HCa := hide (HNow.out wr HI.out.2 q hqm)
        rw [← hy] at HCa
        have HR := hide (HI.out.1.alloc (.cells #[.int .i64 y] 3))
        have B4 := hide (show Below w.heap.size w (wr.alloc (.cells #[.int .i64 y] 3)) from HI.out.2.trans (((Below.refl _ _).alloc (Nat.le_refl _) _).mono HI.out.2.size))
        clear hq hy
        go_wp2_with (first
          | (go_at_call 84
             refine HCa.out.mono ?_
             rintro e w3 ⟨rfl, hw3⟩
             rw [hw3]
             clear hw3)
          | (at_builtin; refine wpList_append_own_at _ rfl (.tmp 15) (.tmp 19) 29 rfl w.heap.size 3 i0 (.int .i64 0) 1 8 Tryz.underlying29 hi hz0 hz1 hz2 rfl (by decide) (.slice xa k xc) k _ rfl HR.out ⟨wr.heap.size, 0, none⟩ 1 1 [.int .i64 y] rfl rfl (cells_newI wr y) (by intro z hz; simp at hz; rcases hz with rfl; rfl) (by unfold maxLen; omega) (by omega) (by simp; omega) ?_
             intro v4 w4 o4 g4 _ _
             obtain ⟨va, vc, rfl⟩ := own_shapeT o4
             have H4 := hide (And.intro o4 g4)
             clear o4 g4)
          | fail)
        go_roundw
        case rel =>
          refine ⟨k + 1, va, vc, by omega, by have := HQ.out; rw [show 12 + (k + 1) = q + 1 by omega]; go_num, rfl, hide ⟨?_, B4.out.grown H4.out.2 B4.out.size (fun r e => (HR.out.lt r e).1)⟩⟩
          have h := H4.out.1
          rw [farTo_succ, ← HQ.out, if_pos hqm, ← HY.out, List.map_append]
          exact h
        case measure => simp [intOf]; omega
      · have hqI : ¬ ((q : Int) < (m : Int)) := by omega
        have HR := hide (HI.out.1.alloc (.cells #[.int .i64 0] 3))
        have B4 := hide (show Below w.heap.size w (wr.alloc (.cells #[.int .i64 0] 3)) from HI.out.2.trans (((Below.refl _ _).alloc (Nat.le_refl _) _).mono HI.out.2.size))
        clear hq
        go_wp2_with (first
          | (at_builtin; refine wpList_append_own_at _ rfl (.tmp 21) (.tmp 22) 29 rfl w.heap.size 3 i0 (.int .i64 0) 1 8 Tryz.underlying29 hi hz0 hz1 hz2 rfl (by decide) (.slice xa k xc) k _ rfl HR.out ⟨wr.heap.size, 0, none⟩ 1 1 [.int .i64 0] rfl rfl (cells_newI wr 0) (by intro z hz; simp at hz; rcases hz with rfl; rfl) (by unfold maxLen; omega) (by omega) (by simp; omega) ?_
             intro v4 w4 o4 g4 _ _
             obtain ⟨va, vc, rfl⟩ := own_shapeT o4
             have H4 := hide (And.intro o4 g4)
             clear o4 g4)
          | fail)
        go_roundw
        case rel =>
          refine ⟨k + 1, va, vc, by omega, by have := HQ.out; rw [show 12 + (k + 1) = q + 1 by omega]; go_num, rfl, hide ⟨?_, B4.out.grown H4.out.2 B4.out.size (fun r e => (HR.out.lt r e).1)⟩⟩
          have h := H4.out.1
          rw [farTo_succ, ← HQ.out, if_neg hqm, List.map_append]
          exact h
        case measure => simp [intOf]; omega
    · have hltI : ¬ ((q : Int) < 140) := by omega
      obtain rfl : k = 128 := by omega
      clear hq
      go_wp2
      go_ret
      exact ⟨_, rfl, HI.out.1, HI.out.2⟩
end Go.Proofs.YtlimollpocagiaaGreatDoor

namespace Go.Proofs.YtlimollpocagiaaGreatDoor
set_option linter.unusedVariables false
set_option linter.unusedSimpArgs false
open Go.RowKit Go.Shelf
attribute [local go_sem] Oper.semAt_some

def topE0 (X : Nat) (j : Nat) : Array Value := #[spotV (topL j) (topR j), .pointer (some ⟨X, 1 + j, none⟩)]
set_option maxHeartbeats 1000000 in
theorem tops0_in (n X : Nat) (w : World) :
    CallsIn Fence.wide n Tryz.prog 103 #[.pointer (some ⟨X, 0, none⟩)] w fun e w' => e = .returned (.func (.func 118) #[] #[.pointer (some ⟨w.heap.size, 0, none⟩)]) ∧ w' = w.alloc (.cells #[.pointer (some ⟨X, 0, none⟩)] 183) := by
  refine callsIn_of_wp Tryz.func103 rfl trivial ?_ rfl
  simp only [Tryz.ntmps103, List.size_toArray, List.length_cons, List.length_nil, Nat.reduceAdd, Nat.reduceSub, Array.replicate_succ, Array.replicate_zero, List.push_toArray, List.append_toArray, List.nil_append, List.cons_append]
  gi_wp2
  go_ret
  exact ⟨rfl, rfl⟩
set_option maxRecDepth 100000 in
set_option maxHeartbeats 2000000 in
theorem tops0_goes (n Bx X n₀ z : Nat) (Ty : TypeId → Prop) (hTy : ¬ Ty 183) (W : World) (hBx : Blk W Bx #[.pointer (some ⟨X, 0, none⟩)] 183) :
    GoesK Fence.wide n Tryz.prog 118 #[.pointer (some ⟨Bx, 0, none⟩)] (topE0 X) (Kq n₀ z Ty) (fun pre x _ => x = pre.length ∧ x < 14) (fun xs => xs = List.range 14) (fun _ => True) W := by
  intro l J Jx hJ hJx hY h0
  have hdd : ∀ k : Nat, (Fence.wide.depth.isSome = true → 1 ≤ k) := fun k h => by cases h
  have HY := hide (show ∀ (j : Nat) (W1 : World), j < 14 → J (List.range j) W1 → Blk W1 Bx #[.pointer (some ⟨X, 0, none⟩)] 183 → YieldAt Fence.wide (n - 1) Tryz.prog l (topE0 X j) W1 fun e W' => (e = .returned (.bool true) ∧ J (List.range (j + 1)) W' ∧ Blk W' Bx #[.pointer (some ⟨X, 0, none⟩)] 183) ∨ (e = .returned (.bool false) ∧ ∃ pre, Jx pre W') from fun j W1 hj h1 h2 => by
    have := hY (List.range j) j W1 h1 ⟨by simp, hj⟩
    exact YieldAt.mono this fun e W' h => h.elim (fun ⟨he, hj2, hk⟩ => .inl ⟨he, by rw [← range_snoc]; exact hj2, hk.blk h2 hTy⟩) (fun ⟨he, hx, _⟩ => .inr ⟨he, _, hx⟩))
  have H0 := hide (And.intro h0 hBx)
  clear hY h0 hBx hJ hJx
  refine callsIn_of_wp Tryz.func118 rfl trivial ?_ rfl
  simp only [Tryz.ntmps118, List.size_toArray, List.length_cons, List.length_nil, Nat.reduceAdd, Nat.reduceSub, Array.replicate_succ, Array.replicate_zero, List.push_toArray, List.append_toArray, List.nil_append, List.cons_append]
  gi_wp2
  gi_loopw [4] (fun iv wr => ∃ i : Nat, i ≤ 12 ∧ iv = .int .i64 (i : Int) ∧ J (List.range i) wr ∧ Blk wr Bx #[.pointer (some ⟨X, 0, none⟩)] 183) (fun iv _ => 12 - (intOf iv).toNat)
  case atStart => exact ⟨0, by omega, rfl, H0.out.1, H0.out.2⟩
  case round =>
    obtain ⟨i, hi, rfl, hj, hb⟩ := hrel
    clear H0
    have cb := (hb.cell 0).trans (show _ = some (.pointer (some ⟨X, 0, none⟩)) from rfl)
    by_cases hi2 : i < 12
    · obtain ⟨fn, tmps, assign, body, hy, hR⟩ := HY.out i wr (by omega) hj hb
      have hiI : (i : Int) < 12 := by omega
      replace hy : (Instr.yield l #[.agg #[.int .i64 0, .int .i64 (i : Int)], .pointer (some ⟨X, 1 + i, none⟩)]).run Tryz.prog wr = .ok (.round l fn tmps assign body) wr := by
        have e : topE0 X i = #[.agg #[.int .i64 0, .int .i64 (i : Int)], .pointer (some ⟨X, 1 + i, none⟩)] := by unfold topE0 topL topR spotV; rw [if_pos hi2, if_pos hi2]; rfl
        rw [e] at hy; exact hy
      have HR := hide hR
      clear hR hj hb
      gi_wp2
      refine ⟨hdd _, ?_⟩
      refine HR.out.mono ?_
      rintro e W3 (⟨rfl, hj3, hb3⟩ | ⟨rfl, pre, hx3⟩)
      · have H3 := hide (And.intro hj3 hb3)
        clear hj3 hb3 hy HR cb
        gi_wp2
        go_roundw
        case rel => exact ⟨i + 1, by omega, by go_num, H3.out.1, H3.out.2⟩
        case measure => simp [intOf]; omega
      · have H3 := hide hx3
        clear hx3 hy HR cb
        gi_wp2
        refine bodyPost_ret (results_none rfl _ _ _) rfl ?_
        exact ⟨⟨_, rfl⟩, .inr ⟨pre, trivial, H3.out⟩⟩
    · have hi3 : i = 12 := by omega
      subst hi3
      clear hi2
      obtain ⟨fn, tmps, assign, body, hy, hR⟩ := HY.out 12 wr (by omega) hj hb
      replace hy : (Instr.yield l #[.agg #[.int .i64 1, .int .i64 0], .pointer (some ⟨X, 13, none⟩)]).run Tryz.prog wr = .ok (.round l fn tmps assign body) wr := hy
      have HR := hide hR
      clear hR hj hb
      gi_wp2
      refine ⟨hdd _, ?_⟩
      refine HR.out.mono ?_
      rintro e W3 (⟨rfl, hj3, hb3⟩ | ⟨rfl, pre, hx3⟩)
      · obtain ⟨fn2, tmps2, assign2, body2, hy2, hR2⟩ := HY.out 13 W3 (by omega) hj3 hb3
        replace hy2 : (Instr.yield l #[.agg #[.int .i64 2, .int .i64 0], .pointer (some ⟨X, 14, none⟩)]).run Tryz.prog W3 = .ok (.round l fn2 tmps2 assign2 body2) W3 := hy2
        have cb3 := (hb3.cell 0).trans (show _ = some (.pointer (some ⟨X, 0, none⟩)) from rfl)
        have HR2 := hide hR2
        clear hR2 hj3 hb3 hy HR cb
        gi_wp2
        refine ⟨hdd _, ?_⟩
        refine HR2.out.mono ?_
        rintro e W4 (⟨rfl, hj4, hb4⟩ | ⟨rfl, pre, hx4⟩)
        · have H4 := hide hj4
          clear hj4 hb4 hy2 HR2 cb3
          gi_wp2
          go_end0
          exact ⟨⟨_, rfl⟩, .inl ⟨_, rfl, H4.out⟩⟩
        · have H4 := hide hx4
          clear hx4 hy2 HR2 cb3
          gi_wp2
          go_end0
          exact ⟨⟨_, rfl⟩, .inr ⟨pre, trivial, H4.out⟩⟩
      · have H3 := hide hx3
        clear hx3 hy HR cb
        gi_wp2
        go_end0
        exact ⟨⟨_, rfl⟩, .inr ⟨pre, trivial, H3.out⟩⟩
end Go.Proofs.YtlimollpocagiaaGreatDoor
