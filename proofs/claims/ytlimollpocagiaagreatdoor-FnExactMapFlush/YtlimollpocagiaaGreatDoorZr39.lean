/- EncodeWords of the program: it gives encW, in memory of its own. The bytes of a block of words. What kinds of blocks a call may turn (as in DkM, for a seat without the device). -/
import Derived.Test.YtlimollpocagiaaGreatDoorZr09
import Derived.Test.YtlimollpocagiaaGreatDoorZr19
import Derived.Test.YtlimollpocagiaaGreatDoorZr23
namespace Go.Proofs.YtlimollpocagiaaGreatDoor
open Go.RowKit

theorem told_ok (v : Value) (w : World) : Calls Tryz.prog 41 #[v, .nilIface] w fun e w' => e = .returned (.tuple #[v, .int .i64 0]) ∧ w = w' := by
  go_enter Tryz.func41, Tryz.ntmps41
  go_wp2
  go_ret2
  exact ⟨rfl, rfl⟩
theorem told_bad (v ev : Value) (n lo : Nat) (c : Int) (w : World) (hv : Flt w lo n ev c) (hg : ErrT w) :
    Calls Tryz.prog 41 #[v, ev] w fun e w' => e = .returned (.tuple #[.slice none 0 0, .int .i64 c]) ∧ Below w.heap.size w w' := by
  obtain ⟨t', x', rfl⟩ := hv.iface
  have HV := hide (And.intro hv hg)
  clear hv hg
  go_enter Tryz.func41, Tryz.ntmps41
  go_wp2_with (go_at_call 27; refine (codeOf_any n _ c lo _ HV.out.1 HV.out.2).mono ?_; rintro e w' ⟨rfl, hb⟩)
  go_ret2
  exact ⟨rfl, hb⟩

/-- The bytes of whatever integers, each cut to its lowest 32 bits. -/
def bytesM (ws : List Int) : List Int := ws.flatMap fun v => le 4 (v % 4294967296).toNat
theorem bytesM_take (ws : List Int) (k : Nat) (h : k < ws.length) : bytesM (ws.take (k + 1)) = bytesM (ws.take k) ++ le 4 (ws.getD k 0 % 4294967296).toNat := by
  unfold bytesM
  rw [List.take_succ_eq_append_getElem h, List.flatMap_append]
  simp [List.getD, h]
theorem bytesM_eq (ws : List Int) (h : ws.all okW = true) : bytesM ws = bytesW ws := by
  unfold bytesM bytesW
  induction ws with
  | nil => rfl
  | cons v ws ih =>
    rw [List.all_cons, Bool.and_eq_true] at h
    rw [List.flatMap_cons, List.flatMap_cons, ih h.2]
    have := h.1
    simp only [okW, Bool.and_eq_true, decide_eq_true_eq] at this
    rw [Int.emod_eq_of_lt this.1 (by omega)]

set_option maxRecDepth 100000 in
set_option maxHeartbeats 400000 in
theorem implW_any (v : Value) (ws : List Int) (w : World) (h : Rd .i64 w v ws) (hg : ErrT w) :
    Calls Tryz.prog 102 #[v] w fun e w' => ∃ v', e = .returned (.tuple #[v', .int .i64 (codeW ws)]) ∧ w'.ownsRow w.heap.size 5 1 v' (encW ws).length ((encW ws).map (Value.int .u8)) ∧ Below w.heap.size w w' := by
  obtain ⟨i0, hi, hz0, hz1, hz2⟩ := info_parts infoU8
  have hm := h.len
  unfold maxLen at hm
  have hb0 : Below w.heap.size w (w.alloc (.cells #[.int .i64 7, .nilIface] 100)) := (Below.refl _ _).alloc (Nat.le_refl _) _
  have hck := hide (Ck.fresh w 7 100)
  have HG := hide hg
  clear hg
  by_cases hlen : ws.length = 128
  · rcases h.parts with ⟨a, cap, rfl, hlow⟩ | ⟨b, off, cap, rfl, hbw, hcell⟩
    · omega
    · have HN : Hid (ws.length = 128) := hlen
      rw [hlen] at hcell ⊢
      clear h hlen hm
      go_enter Tryz.func102, Tryz.ntmps102
      go_wp2_with fail
      refine (need_any w.heap.size (w.heap.size + 1) _ 7 true true _ hck.out (by omega) (by simp)).mono ?_
      rintro e w1 ⟨rfl, hc1, ht1⟩
      have hbw1 := ht1.under hb0 (Nat.le_refl _) (by simp)
      have hB1 := hc1.lt
      have e1 : w1.cell? ⟨w.heap.size, 1, none⟩ = some .nilIface := by
        obtain ⟨_, _, ev, e2, e3⟩ := hc1
        rcases e3 with ⟨_, rfl⟩ | ⟨e3, _⟩
        · exact e2
        · cases e3
      have HC1 := hide (hc1.relo (lo' := w1.heap.size + 1))
      have HB1 := hide hbw1
      clear hc1 ht1 hck hb0 hbw1
      go_wp2_with (refine wpList_make_own _ rfl _ _ 22 rfl w1.heap.size 5 i0 (.int .u8 0) 1 Tryz.underlying22 hi hz0 hz1 .i64 .i64 512 512 rfl rfl rfl (by rw [hz2]; omega) (by unfold maxLen; omega) (Nat.le_refl _) ?_; intro w2 hown2 hgr2)
      have hs2 := hgr2.size
      have hG2 := (hown2.lt w1.heap.size rfl).2
      have HB2 := hide (HB1.out.grown hgr2 (by omega) (fun k h => by cases h))
      have HC2 := hide (HC1.out.keep (hgr2.block w.heap.size hB1 (by simp)) (fun k hk _ => hgr2.block k hk (by simp)))
      clear hgr2 HB1 HC1 e1
      go_loopw [5, 22] (fun o i wr => ∃ k : Nat, k ≤ 128 ∧ i = .int .i64 k ∧ o = .slice (some ⟨w1.heap.size, 0, none⟩) (4 * k) 512 ∧ w1.heap.size < wr.heap.size ∧ wr.ownsRow w1.heap.size 5 1 (.slice (some ⟨w1.heap.size, 0, none⟩) (4 * k) 512) (4 * k) ((bytesM (ws.take k)).map (Value.int .u8)) ∧ Ck wr w.heap.size (w1.heap.size + 1) 7 ((ws.take k).all okW) ∧ Below w.heap.size w wr) (fun _ i _ => 128 - (intOf i).toNat)
      case atStart => exact ⟨0, by omega, rfl, rfl, hG2, by simpa [bytesM] using hown2, by simpa using HC2.out, HB2.out⟩
      case round =>
        clear hown2 HC2 HB2 hs2 hG2
        obtain ⟨k, hk, rfl, rfl, hGr, hown, hck, hb⟩ := hrel
        by_cases hlt : k < 128
        · have hkl : k < ws.length := by rw [HN.out]; exact hlt
          have c1 : wr.cell? ⟨b, off + k, none⟩ = some (.int .i64 (ws.getD k 0)) := (hb.cell (p := ⟨b, off + k, none⟩) hbw).trans (hcell k hlt)
          have HT := hide (And.intro (bytesM_take ws k hkl) (all_take ws k hkl))
          clear hcell hkl
          generalize ws.getD k 0 = z at c1 HT
          obtain ⟨q, hq⟩ : ∃ q : Nat, z % 4294967296 = (q : Int) := ⟨(z % 4294967296).toNat, by omega⟩
          have hql : q < 4294967296 := by omega
          rw [hq, Int.toNat_natCast] at HT
          have HK := hide (And.intro hck (And.intro hown hb))
          clear hck hown hb
          go_wp2_with fail
          refine (within_any w.heap.size (w1.heap.size + 1) _ 7 z 0 4294967295 _ _ HK.out.1 (by omega) (by omega)).mono ?_
          rintro e w3 ⟨rfl, hc3, ht3⟩
          have ho3 := HK.out.2.1.kept ht3.1 (.inr (by simp [Value.ownBlock]; omega))
          have hs3 := ht3.1.size
          have HB3 := hide (ht3.under HK.out.2.2 (Nat.le_refl _) (by omega))
          have HC3 := hide hc3
          clear hc3 ht3 HK
          go_wp2_with fail
          refine (lay32_any w1.heap.size w1.heap.size (4 * k) 512 q _ _ ho3 (by omega) (by omega) hql).mono ?_
          rintro e w4 ⟨rfl, ho4, hg4⟩
          have hs4 := hg4.size
          have HW := hide (show w4.ownsRow w1.heap.size 5 1 (.slice (some ⟨w1.heap.size, 0, none⟩) (4 * (k + 1)) 512) (4 * (k + 1)) ((bytesM (ws.take (k + 1))).map (Value.int .u8)) ∧ Ck w4 w.heap.size (w1.heap.size + 1) 7 ((ws.take (k + 1)).all okW) ∧ Below w.heap.size w w4 from by
            refine ⟨?_, ?_, HB3.out.grown hg4 (by omega) (fun r h => by cases h; omega)⟩
            · rw [HT.out.1, List.map_append, show 4 * (k + 1) = 4 * k + 4 from by omega]; exact ho4
            · rw [HT.out.2]; exact HC3.out.grown hg4 (by omega) (by omega))
          clear ho3 ho4 hg4 HB3 HC3 hq
          go_wp2
          go_roundw
          case rel => exact ⟨k + 1, by omega, by go_num, by rw [show 4 * (k + 1) = 4 * k + 4 from by omega], by omega, HW.out.1, HW.out.2.1, HW.out.2.2⟩
          case measure => simp [intOf]; omega
        · have hk8 : k = 128 := by omega
          subst hk8
          have ht : ws.take 128 = ws := List.take_of_length_le (by rw [HN.out]; omega)
          rw [ht] at hown hck
          obtain ⟨c1, c2, ev, c3, c4⟩ := hck
          rcases c4 with ⟨hal, rfl⟩ | ⟨hal, n, c4⟩
          · have HGd := hide (show goodW ws = true from by unfold goodW; simp [HN.out, hal])
            have HM := hide (bytesM_eq ws hal)
            have HO := hide hown
            clear hal hown ht hcell
            go_wp2_with (go_at_call 41; refine (told_ok _ _).mono ?_; rintro e w5 ⟨rfl, rfl⟩)
            go_ret2
            refine ⟨_, by rw [codeW, HGd.out]; rfl, ?_, hb⟩
            rw [encW, if_pos HGd.out, bytesW_len, HN.out, ← HM.out]
            exact own_mono HO.out (by omega)
          · have HGd := hide (show goodW ws = false from by unfold goodW; simp [hal])
            obtain ⟨t', x', rfl⟩ := c4.iface
            have H4 := hide c4
            clear hal hown ht hcell c4
            go_wp2_with (go_at_call 41; refine (told_bad _ _ n _ 7 _ H4.out (HG.out.below hb)).mono ?_; rintro e w5 ⟨rfl, hb5⟩)
            go_ret2
            exact ⟨_, by rw [codeW, HGd.out]; rfl, by rw [encW, HGd.out]; exact World.ownsRow_nil _ _ _ _, hb.trans (hb5.mono hb.size)⟩
  · obtain ⟨a, cap, rfl, _, _⟩ := h
    have hq : ((ws.length : Int) == 128) = false := by simp; omega
    have HB := hide (show goodW ws = false from by unfold goodW; simp [hlen])
    clear hlen
    go_enter Tryz.func102, Tryz.ntmps102
    go_wp2_with fail
    refine (need_any w.heap.size (w.heap.size + 1) _ 7 true false _ hck.out (by omega) (by simp)).mono ?_
    rintro e w1 ⟨rfl, hc1, ht1⟩
    have hbw1 := ht1.under hb0 (Nat.le_refl _) (by simp)
    obtain ⟨c1, c2, ev, c3, c4⟩ := hc1
    rcases c4 with ⟨c4, _⟩ | ⟨_, n, c4⟩
    · cases c4
    · obtain ⟨t', x', rfl⟩ := c4.iface
      have H4 := hide c4
      clear c4 ht1
      go_wp2_with (go_at_call 27; refine (codeOf_any n _ 7 _ _ H4.out (HG.out.below hbw1)).mono ?_; rintro e w2 ⟨rfl, hb2⟩)
      go_ret2
      exact ⟨_, by rw [codeW, HB.out]; rfl, by rw [encW, HB.out]; exact World.ownsRow_nil _ _ _ _, hbw1.trans (hb2.mono hbw1.size)⟩
end Go.Proofs.YtlimollpocagiaaGreatDoor

namespace Go.Proofs.YtlimollpocagiaaGreatDoor
set_option linter.unusedVariables false
set_option linter.unusedSimpArgs false
open Go.RowKit

set_option maxHeartbeats 1000000 in
theorem layW_any (ms : List Int) (w : World) (hl : ms.length = 128) (hg : ErrT w) :
    Calls Tryz.prog 72 #[.agg (ms.map (Value.int .i64)).toArray] w fun e w' => ∃ v', e = .returned v' ∧ w'.ownsRow w.heap.size 5 1 v' (encW ms).length ((encW ms).map (Value.int .u8)) ∧ Below w.heap.size w w' := by
  obtain ⟨W1, hW1⟩ : ∃ W1, W1 = w.alloc (.cells (ms.map (Value.int .i64)).toArray 127) := ⟨_, rfl⟩
  have B1 := hide (show Below w.heap.size w W1 from by rw [hW1]; exact (Below.refl _ _).alloc (Nat.le_refl _) _)
  have HR := hide (show Rd .i64 W1 (.slice (some ⟨w.heap.size, 0, none⟩) 128 128) ms from by rw [hW1]; exact rd_arr (n := 128) (Blk.new w _ _) hl.symm (by omega))
  have HG := hide (hg.below B1.out)
  obtain ⟨M, hM⟩ : ∃ M, M = (ms.map (Value.int .i64)).toArray := ⟨_, rfl⟩
  rw [← hM] at hW1 ⊢
  have HW1 := hide hW1
  clear hW1 hl hg hM
  go_enter Tryz.func72, Tryz.ntmps72
  go_upto_region 1 with fail
  rw [← HW1.out]
  go_wp2_with (go_at_call 102; refine (implW_any _ ms _ HR.out HG.out).mono ?_; rintro e w1 ⟨v1, rfl, o1, b1⟩; have O1 := hide (And.intro o1 b1); clear o1 b1)
  go_ret
  exact ⟨_, rfl, own_mono O1.out.1 B1.out.size, B1.out.trans (O1.out.2.mono B1.out.size)⟩
end Go.Proofs.YtlimollpocagiaaGreatDoor

namespace Go.Proofs.YtlimollpocagiaaGreatDoor
set_option linter.unusedVariables false
set_option linter.unusedSimpArgs false
open Go.RowKit

/-- Only blocks whose cells are of a type in T have turned. -/
def KpY (T : TypeId → Prop) (W W' : World) : Prop := ∀ b, b < W.heap.size → (∀ c t s, W.heap[b]? = some (.cells c t s) → ¬ T t) → W'.heap[b]? = W.heap[b]?
section
variable {T : TypeId → Prop} {W W' W2 : World} {base d : Nat}
theorem KpY.refl (T : TypeId → Prop) (W : World) : KpY T W W := fun _ _ _ => rfl
theorem KpY.trans (h : KpY T W W') (k : KpY T W' W2) : KpY T W W2 := fun b hb hT => by
  have e := h b hb hT
  have hb2 : b < W'.heap.size := by
    have h1 : W.heap[b]? = some (W.heap[b]) := Array.getElem?_eq_getElem hb
    rw [← e] at h1
    exact (Array.getElem?_eq_some_iff.1 h1).1
  exact (k b hb2 (fun c t s hc => hT c t s (by rw [← e]; exact hc))).trans e
theorem KpY.below (h : KpY T W W') (hb : Below W'.heap.size W' W2) : KpY T W W2 := h.trans (fun b hb' _ => hb.block b hb')
theorem KpY.alloc (h : KpY T W W') (o : Obj) : KpY T W (W'.alloc o) := h.below ((Below.refl _ _).alloc (Nat.le_refl _) _)
theorem KpY.ownrow {e : TypeId} {sz n : Nat} {v : Value} {xs : List Value} (h : KpY T W W') (ho : W'.ownsRow base e sz v n xs) (hT : T e) (hg : W'.grownBy W2 v.ownBlock) : KpY T W W2 := by
  refine h.trans (fun b hb hT2 => hg.block b hb (fun e' => ?_))
  rcases ho.2 with ⟨rfl, _⟩ | ⟨g, cap, cur, rfl, _, hgg, _⟩
  · cases e'
  · have : b = g := Option.some.inj e'
    subst this
    exact hT2 _ _ _ hgg hT
theorem KpY.setCell {C : Array Value} {t : TypeId} {j : Nat} {u : Value} (h : KpY T W W') (hB : Blk W' d C t) (hT : T t) : KpY T W (W'.setCell ⟨d, j, none⟩ u) :=
  h.trans (fun b hb hT2 => Below.heap_setCell _ _ _ _ (fun e => by
    have h1 : W'.heap[d]? = some (.cells C t (0, 0)) := hB
    simp only at e
    subst e
    exact hT2 _ _ _ h1 hT))
theorem KpY.own {e : TypeId} {sz n : Nat} {v : Value} {xs : List Value} (h : KpY T W W') (ho : W.ownsRow base e sz v n xs) (hT : ¬ T e) : W'.ownsRow base e sz v n xs := by
  refine ⟨ho.1, ?_⟩
  rcases ho.2 with hn | ⟨g, cap, cur, rfl, hb, hgg, rest⟩
  · exact .inl hn
  · refine .inr ⟨g, cap, cur, rfl, hb, ?_, rest⟩
    rw [h g (Array.getElem?_eq_some_iff.1 hgg).1 (fun c t s hc => by rw [hgg] at hc; injection hc with hc; injection hc with _ hc _; rw [← hc]; exact hT)]
    exact hgg
theorem KpY.blk {C : Array Value} {t : TypeId} (h : KpY T W W') (hB : Blk W d C t) (hT : ¬ T t) : Blk W' d C t := by
  have h1 : W.heap[d]? = some (.cells C t (0, 0)) := hB
  show W'.heap[d]? = _
  rw [h d (Array.getElem?_eq_some_iff.1 h1).1 (fun c t' s hc => by rw [h1] at hc; injection hc with hc; injection hc with _ hc _; rw [← hc]; exact hT)]
  exact h1
end
end Go.Proofs.YtlimollpocagiaaGreatDoor
