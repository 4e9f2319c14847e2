/- take at no bytes and at less than none; zeros and end. The model's numbers as bytes: l02Put, l02Get. The model's number of at most eight bytes: l02Get. -/
import Derived.Test.YtlgafpjmifacmaaDoorZt11
import Derived.Test.YtlgafpjmifacmaaDoorZt10
namespace Go.Proofs.YtlgafpjmifacmaaDoor
set_option linter.unnecessarySimpa false
open Go.RowKit

set_option maxRecDepth 100000 in
set_option maxHeartbeats 1000000 in
theorem take_zero (w0 w : World) (b lo : Nat) (ok : Bool) (dv : Value) (zs : List Int) (pos : Nat) (h : Rdr w0 w b lo ok dv zs pos) (hp : 0 < pos) (hz : zs.length ≤ 140737488355328) :
    Calls Tryd.prog 106 #[.pointer (some ⟨b, 0, none⟩), .int .i64 0] w fun e w' => ∃ sv, e = .returned sv ∧ Took w0 w w' b lo ok dv zs pos 0 sv := by
  have hd := h.data
  have ha := h.at_
  have hl := h.le
  have hlt := h.ck.lt
  obtain ⟨bd, off, cap, rfl, hbd, hcl, hcm, hcell⟩ := h.read.partsC (by omega)
  have HP := hide (And.intro hcell hbd)
  have H := hide h
  unfold maxLen at hcm
  clear h hcell
  have HQ := hide (show decide ((0 : Int) ≤ IntKind.i64.wrap ((zs.length : Int) - (pos : Int))) = true from by rw [IntKind.wrap_i64]; simp; omega)
  go_enter Tryd.func106, Tryd.ntmps106
  go_wp2
  go_region_held (fun w' => w'.cell? ⟨b, 2, none⟩ = some (.slice (some ⟨bd, off, none⟩) zs.length cap) ∧ w'.cell? ⟨b, 3, none⟩ = some (.int .i64 pos)) (go_keep) ((go_at_call 36; refine (need_any b lo _ 21 ok (decide ((0 : Int) ≤ IntKind.i64.wrap ((zs.length : Int) - (pos : Int)))) _ (H.out.ck.below ((Below.refl _ _).drew)) H.out.lo1 H.out.lo2).mono ?_; rintro e w1 ⟨rfl, hc1, ht1⟩; have hd1 := (ht1.2.1 2 (by omega)).trans hd; have ha1 := (ht1.2.1 3 (by omega)).trans ha))
  rw [HQ.out, Bool.and_true] at hc1
  have ht1' : Tch b w w1 := (Tch.of_below hlt ((Below.refl _ _).drew)).trans ht1
  have R1 := hide (H.out.tch hc1 ht1')
  have G1 := hide ht1'.1
  have hf1 := R1.out.fr
  obtain ⟨c1, c2, ev, c3, c4⟩ := hc1
  clear ht1 ht1'
  rcases c4 with ⟨rfl, rfl⟩ | ⟨rfl, m, c4⟩
  · have k2 : (w1.setCell ⟨b, 3, none⟩ (.int .i64 (pos : Int))).cell? ⟨b, 2, none⟩ = some (.slice (some ⟨bd, off, none⟩) zs.length cap) := by
      rw [World.cell?_setCell_other _ _ _ _ (by intro e; injection e with e1 e2; omega)]; exact hd1
    have k3 : (w1.setCell ⟨b, 3, none⟩ (.int .i64 (pos : Int))).cell? ⟨b, 3, none⟩ = some (.int .i64 (pos : Int)) := World.cell?_setCell_same _ _ _ ha1
    go_wp2
    go_quiet (fail)
    go_wp2
    all_goals
      go_ret
      refine ⟨_, rfl, ?_, .inl ⟨rfl, by omega, by omega, ?_, ?_⟩⟩
      · exact ⟨G1.out.os, G1.out.tape, G1.out.output, by simpa using G1.out.size, fun k hk hne => (Below.heap_setCell w1 ⟨b, 3, none⟩ _ k (fun e => hne (by rw [e]))).trans (G1.out.block k hk hne)⟩
      · exact ⟨_, _, rfl, by simp, fun h => absurd (by simp) h, by simp, by unfold maxLen; omega⟩
      · have hm := R1.out.moved pos nq (by omega) (.int .i64 (pos : Int)) rfl
        first | exact hm | (simp [*]; done) | simpa [*] using hm
  · obtain ⟨t', x', rfl⟩ := c4.iface
    clear c4
    go_wp2
    go_ret
    exact ⟨_, rfl, G1.out, .inr ⟨fun h => (by cases h.1), rfl, R1.out⟩⟩

theorem take_nn (w0 w : World) (b lo : Nat) (ok : Bool) (dv : Value) (zs : List Int) (pos n : Nat) (x : Int) (hx : x = n) (h : Rdr w0 w b lo ok dv zs pos) (hn0 : 0 < n ∨ 0 < pos) (hn : n ≤ 4294967296) (hz : zs.length ≤ 140737488355328) :
    Calls Tryd.prog 106 #[.pointer (some ⟨b, 0, none⟩), .int .i64 x] w fun e w' => ∃ sv, e = .returned sv ∧ Took w0 w w' b lo ok dv zs pos n sv := by
  subst hx
  by_cases h0 : 0 < n
  · exact take_any w0 w b lo ok dv zs pos n h h0 hn hz
  · have e0 : n = 0 := by omega
    subst e0
    exact take_zero w0 w b lo ok dv zs pos h (by omega) hz

/-- What zeros leaves: a reader at the place told, with a fault where a byte up to there isn't 0; or a fault at once. -/
def Zd (w0 w w' : World) (b lo : Nat) (ok : Bool) (dv : Value) (zs : List Int) (pos at_ : Nat) : Prop :=
  w.grownBy w' (some b) ∧ ((ok = true ∧ at_ ≤ zs.length ∧ Rdr w0 w' b lo (((zs.drop pos).take (at_ - pos)).all (fun z => decide (z = 0))) dv zs at_) ∨ (¬ (ok = true ∧ at_ ≤ zs.length) ∧ Rdr w0 w' b lo false dv zs pos))

theorem all_take0 (ts : List Int) (k : Nat) (h : k < ts.length) : (ts.take (k + 1)).all (fun z => decide (z = 0)) = ((ts.take k).all (fun z => decide (z = 0)) && decide (ts.getD k 0 = 0)) := by
  rw [List.take_succ_eq_append_getElem h, List.all_append]
  simp [List.getD, h]

set_option maxRecDepth 100000 in
set_option maxHeartbeats 1000000 in
theorem zeros_any (w0 w : World) (b lo : Nat) (ok : Bool) (dv : Value) (zs : List Int) (pos at_ : Nat) (h : Rdr w0 w b lo ok dv zs pos) (hp : pos ≤ at_) (hn0 : 0 < at_) (hn : at_ ≤ 4294967296) (hz : zs.length ≤ 140737488355328) :
    Calls Tryd.prog 99 #[.pointer (some ⟨b, 0, none⟩), .int .i64 at_] w fun e w' => e = .returned (.tuple #[]) ∧ Zd w0 w w' b lo ok dv zs pos at_ := by
  have ha := h.at_
  have H := hide h
  clear h
  go_enter Tryd.func99, Tryd.ntmps99
  go_wp2_with fail
  refine (take_nn w0 _ b lo ok dv zs pos (at_ - pos) _ (by go_num) H.out (by omega) (by omega) hz).mono ?_
  rintro e w1 ⟨sv, rfl, hg, ht⟩
  rcases ht with ⟨hok, _, hle, hrd, hr⟩ | ⟨hno, rfl, hr⟩
  · rw [Int.toNat_natCast] at hrd hr
    rw [show pos + (at_ - pos) = at_ from by omega] at hr
    have hlen : ((zs.drop pos).take (at_ - pos)).length = at_ - pos := by simp; omega
    have HE := hide (show ∀ w2, w1.grownBy w2 (some b) → Rdr w0 w2 b lo (((zs.drop pos).take (at_ - pos)).all (fun z => decide (z = 0))) dv zs at_ → Zd w0 w w2 b lo ok dv zs pos at_ from
      fun w2 g2 r2 => ⟨grownBy_trans hg g2, .inl ⟨hok, by omega, r2⟩⟩)
    generalize (zs.drop pos).take (at_ - pos) = ts at hrd hlen HE
    generalize at_ - pos = m at hlen
    have HR := hide hr
    clear hg hok hle ha H hp hn0 hn
    subst hlen
    obtain ⟨a, cap, rfl, hm, hc, _⟩ := hrd
    have HC := hide hc
    clear hc
    unfold maxLen at hm
    clear hr
    go_wp2
    go_loopw [5, 15] (fun _ i wr => ∃ k : Nat, k ≤ ts.length ∧ i = .int .i64 k ∧ w1.grownBy wr (some b) ∧ Rdr w0 wr b lo ((ts.take k).all (fun z => decide (z = 0))) dv zs at_) (fun _ i _ => ts.length - (intOf i).toNat)
    case atStart => exact ⟨0, by omega, rfl, World.grownBy.refl _ _, HR.out⟩
    case round =>
      obtain ⟨k, hk, rfl, hgr, hrr⟩ := hrel
      have HK := hide (And.intro hgr hrr)
      clear hgr hrr HR
      by_cases hlt : k < ts.length
      · obtain ⟨bd, off, rfl, hbd, hcell⟩ := HC.out (fun e => by rw [e] at hlt; simp at hlt)
        have c1 : wr.cell? ⟨bd, off + k, none⟩ = some (.int .u8 (ts.getD k 0)) := (HK.out.2.old.cell (p := ⟨bd, off + k, none⟩) (by rw [← HK.out.2.size]; exact hbd)).trans (hcell k hlt)
        have HT := hide (all_take0 ts k hlt)
        clear hcell HC hbd
        generalize ts.getD k 0 = z at c1 HT
        go_wp2_with (go_at_call 36; fail)
        refine (need_any b lo _ 21 _ _ _ HK.out.2.ck HK.out.2.lo1 HK.out.2.lo2).mono ?_
        rintro e w2 ⟨rfl, hc2, ht2⟩
        have HW := hide (show w1.grownBy w2 (some b) ∧ Rdr w0 w2 b lo ((ts.take (k + 1)).all (fun z => decide (z = 0))) dv zs at_ from by
          rw [HT.out]
          exact ⟨grownBy_trans HK.out.1 ht2.1, HK.out.2.tch hc2 ht2⟩)
        clear hc2 ht2 c1
        go_wp2
        go_roundw
        case rel => exact ⟨k + 1, by omega, by go_num, HW.out.1, HW.out.2⟩
        case measure => simp [intOf]; omega
      · have ek : k = ts.length := by omega
        subst ek
        have HF := hide (HE.out wr HK.out.1 (by have h2 := HK.out.2; rw [List.take_of_length_le (Nat.le_refl _)] at h2; exact h2))
        clear hlt
        go_wp2
        go_end0
        exact ⟨rfl, HF.out⟩
  · have HE := hide (show Zd w0 w w1 b lo ok dv zs pos at_ from ⟨hg, .inr ⟨fun h => hno ⟨h.1, by omega, by omega⟩, hr⟩⟩)
    clear hr hg hno ha H
    go_wp2
    refine wp_loop_rounds 1 ?_
    rw [rounds_succ]
    go_wp2
    go_end0
    exact ⟨rfl, HE.out⟩

/-- What end leaves: no fault where none was, the bytes up to the place told are 0 and nothing lies behind it. -/
def Ed (w0 w w' : World) (b lo : Nat) (ok : Bool) (dv : Value) (zs : List Int) (pos at_ : Nat) : Prop :=
  w.grownBy w' (some b) ∧ ∃ p, Rdr w0 w' b lo (ok && (((zs.drop pos).take (at_ - pos)).all (fun z => decide (z = 0)) && decide (zs.length = at_))) dv zs p

set_option maxRecDepth 100000 in
set_option maxHeartbeats 1000000 in
theorem end_any (w0 w : World) (b lo : Nat) (ok : Bool) (dv : Value) (zs : List Int) (pos at_ : Nat) (h : Rdr w0 w b lo ok dv zs pos) (hp : pos ≤ at_) (hn0 : 0 < at_) (hn : at_ ≤ 4294967296) (hz : zs.length ≤ 140737488355328) :
    Calls Tryd.prog 85 #[.pointer (some ⟨b, 0, none⟩), .int .i64 at_] w fun e w' => e = .returned (.tuple #[]) ∧ Ed w0 w w' b lo ok dv zs pos at_ := by
  have H := hide h
  obtain ⟨a, cap, rfl⟩ : ∃ a cap, dv = .slice a zs.length cap := by obtain ⟨a, cap, h1, _⟩ := h.rd; exact ⟨a, cap, h1⟩
  clear h
  go_enter Tryd.func85, Tryd.ntmps85
  go_wp2_with fail
  refine (zeros_any w0 _ b lo ok _ zs pos at_ H.out hp hn0 hn hz).mono ?_
  rintro e w1 ⟨rfl, hg, hzd⟩
  obtain ⟨ok1, p1, hr, HE⟩ : ∃ ok1 p1, Rdr w0 w1 b lo ok1 (.slice a zs.length cap) zs p1 ∧ Hid ((ok1 && decide ((p1 : Int) = (zs.length : Int))) = (ok && (((zs.drop pos).take (at_ - pos)).all (fun z => decide (z = 0)) && decide (zs.length = at_)))) := by
    rcases hzd with ⟨rfl, hle, hr⟩ | ⟨hno, hr⟩
    · refine ⟨_, _, hr, ?_⟩
      show _ = _
      rw [Bool.true_and]
      congr 1
      rw [decide_eq_decide]
      omega
    · refine ⟨_, _, hr, ?_⟩
      show _ = _
      rw [Bool.false_and]
      cases ok with
      | false => rfl
      | true =>
        have : ¬ zs.length = at_ := fun e => hno ⟨rfl, by omega⟩
        simp [this]
  have HR := hide hr
  have HG := hide hg
  have hd1 := hr.data
  have ha1 := hr.at_
  have hlt1 := hr.ck.lt
  clear hr hg hzd H
  go_wp2
  go_region_held (fun w' => w'.cell? ⟨b, 2, none⟩ = some (.slice a zs.length cap) ∧ w'.cell? ⟨b, 3, none⟩ = some (.int .i64 p1)) (go_keep) ((go_at_call 36; refine (need_any b lo _ 21 ok1 _ _ (HR.out.ck.below ((Below.refl _ _).drew)) HR.out.lo1 HR.out.lo2).mono ?_; rintro e w2 ⟨rfl, hc2, ht2⟩; have hd2 := (ht2.2.1 2 (by omega)).trans hd1; have ha2 := (ht2.2.1 3 (by omega)).trans ha1))
  have ht2' : Tch b w1 w2 := (Tch.of_below hlt1 ((Below.refl _ _).drew)).trans ht2
  have HW := hide (show Ed w0 w w2 b lo ok (.slice a zs.length cap) zs pos at_ from by
    refine ⟨grownBy_trans HG.out ht2'.1, p1, ?_⟩
    rw [← HE]
    exact HR.out.tch hc2 ht2')
  clear hc2 ht2 ht2' hd2 ha2
  go_wp2
  go_end0
  exact ⟨rfl, HW.out⟩
end Go.Proofs.YtlgafpjmifacmaaDoor

namespace Go.Proofs.YtlgafpjmifacmaaDoor
open Go.RowKit

theorem own_empty (w : World) (e : TypeId) : (w.alloc (.cells #[] e)).ownsRow w.heap.size e 1 (.slice (some ⟨w.heap.size, 0, none⟩) 0 0) 0 [] := by
  have h := World.ownsRow_lit (base := w.heap.size) (e := e) (size := 1) w #[] 0 (Nat.le_refl _) (by simp) rfl
  simpa using h

set_option maxRecDepth 100000 in
set_option maxHeartbeats 400000 in
theorem put_any (v n : Nat) (w : World) (hv : v < 281474976710656) (hn : n ≤ 8) :
    Calls Tryd.prog 66 #[.int .i64 v, .int .i64 n] w fun e w' => ∃ v', e = .returned v' ∧ w'.ownsRow w.heap.size 5 1 v' n ((le n v).map (Value.int .u8)) ∧ Below w.heap.size w w' := by
  obtain ⟨i0, hi, hz0, hz1, hz2⟩ := info_parts infoU8
  have h0 := own_empty w 5
  have hb0 : Below w.heap.size w (w.alloc (.cells #[] 5)) := (Below.refl _ _).alloc (Nat.le_refl _) _
  go_enter Tryd.func66, Tryd.ntmps66
  go_wp2
  go_loopw [0, 5, 6] (fun x o i wr => ∃ (j q : Nat) (ys : List Int), j ≤ n ∧ i = .int .i64 j ∧ x = .int .i64 q ∧ q < 281474976710656 ∧ le n v = ys ++ le (n - j) q ∧ wr.ownsRow w.heap.size 5 1 o j (ys.map (Value.int .u8)) ∧ Below w.heap.size w wr) (fun _ _ i _ => n - (intOf i).toNat)
  case atStart => exact ⟨0, v, [], Nat.zero_le _, rfl, rfl, hv, rfl, by simpa using h0, hb0⟩
  case round =>
    clear h0 hb0
    obtain ⟨j, q, ys, hj, rfl, rfl, hq, hle, hown, hb⟩ := hrel
    have HL : Hid (le n v = ys ++ le (n - j) q) := hle
    clear hle
    have hsz := hb.size
    by_cases hlt : j < n
    · go_wp2_with (at_builtin; refine wpList_append_own _ rfl _ _ 24 rfl w.heap.size 5 i0 (.int .u8 0) 1 1 Tryd.underlying24 hi hz0 hz1 hz2 rfl (by decide) _ _ _ rfl (hown.alloc _) ⟨wr.heap.size, 0, none⟩ 1 1 [.int .u8 ((q : Int) % 256)] rfl rfl (cell_one_new _ _ _) (one_u8 _) (by unfold maxLen; omega) (by omega) (by simp; omega) ?_; intro v1 w1 hown1 hgr1 _)
      have HW : Hid (w1.ownsRow w.heap.size 5 1 v1 (j + 1) ((ys ++ [((q % 256 : Nat) : Int)]).map (Value.int .u8)) ∧ Below w.heap.size w w1) := by
        refine ⟨?_, (hb.alloc hsz _).grown hgr1 (by simp; omega) (fun k h => (hown.lt k h).1)⟩
        have e : (ys ++ [((q % 256 : Nat) : Int)]).map (Value.int .u8) = ys.map (Value.int .u8) ++ [.int .u8 ((q : Int) % 256)] := by simp
        rw [e]
        exact hown1
      clear hown hown1 hgr1 hb
      go_roundw
      case rel => exact ⟨j + 1, q / 256, ys ++ [((q % 256 : Nat) : Int)], by omega, by go_num, by go_num, by omega, by rw [HL.out]; exact le_step ys n j q hlt, HW.out.1, HW.out.2⟩
      case measure => simp [intOf]; omega
    · go_wp2
      go_ret
      have e : j = n := by omega
      subst e
      have h := HL.out
      rw [Nat.sub_self, le, List.append_nil] at h
      rw [h]
      exact ⟨_, rfl, hown, hb⟩

theorem put_pos (v n : Nat) (w : World) (hv : v < 281474976710656) (hn : n ≤ 8) (h0 : 0 < n) :
    Calls Tryd.prog 66 #[.int .i64 v, .int .i64 n] w fun e w' => ∃ g cp, e = .returned (.slice (some ⟨g, 0, none⟩) n cp) ∧ w'.ownsRow w.heap.size 5 1 (.slice (some ⟨g, 0, none⟩) n cp) n ((le n v).map (Value.int .u8)) ∧ Below w.heap.size w w' := by
  refine (put_any v n w hv hn).mono ?_
  rintro e w' ⟨v', rfl, ho, hb⟩
  rcases ho.2 with ⟨rfl, hn0⟩ | ⟨g, cap, cur, rfl, _⟩
  · omega
  · exact ⟨g, cap, rfl, ho, hb⟩
end Go.Proofs.YtlgafpjmifacmaaDoor

namespace Go.Proofs.YtlgafpjmifacmaaDoor
open Go.RowKit

def gval (ts : List Int) : Nat := if 70368744177664 ≤ unle ts / 256 then 4611686018427387904 else unle ts
theorem unle_drop (ts : List Int) (j : Nat) (h : j < ts.length) : unle (ts.drop j) = (ts.getD j 0).toNat + 256 * unle (ts.drop (j + 1)) := by
  rw [List.drop_eq_getElem_cons h, unle]
  simp [List.getD, h]
theorem unle_ge (ts : List Int) : ∀ j, 1 ≤ j → j ≤ ts.length → 256 * unle (ts.drop j) ≤ unle ts
  | 0, h, _ => by omega
  | 1, _, h2 => by
    have h := unle_drop ts 0 (by omega)
    rw [List.drop_zero, Nat.zero_add] at h
    rw [h]; omega
  | j + 2, _, h2 => by
    have h := unle_drop ts (j + 1) (by omega)
    have ih := unle_ge ts (j + 1) (by omega) (by omega)
    have e : j + 1 + 1 = j + 2 := rfl
    rw [e] at h
    omega
theorem gval_big (ts : List Int) (j : Nat) (h1 : 1 ≤ j) (h2 : j ≤ ts.length) (h : 70368744177664 ≤ unle (ts.drop j)) : gval ts = 4611686018427387904 := by
  have := unle_ge ts j h1 h2
  unfold gval
  rw [if_pos (by omega)]
theorem gval_small (ts : List Int) (h : unle ts < 18014398509481984) : gval ts = unle ts := by
  unfold gval
  rw [if_neg (by omega)]

set_option maxRecDepth 100000 in
set_option maxHeartbeats 400000 in
theorem get_any (v : Value) (ts : List Int) (w : World) (h : Rd .u8 w v ts) (hl : ts.length ≤ 8) (hbd : ∀ z ∈ ts, 0 ≤ z ∧ z < 256) :
    Calls Tryd.prog 54 #[v] w fun e w' => e = .returned (.int .i64 (gval ts)) ∧ w = w' := by
  have HB := hide hbd
  clear hbd
  rcases h.parts with ⟨a, cap, rfl, hlow⟩ | ⟨b, off, cap, rfl, hbw, hcell⟩
  all_goals
    clear h
    go_enter Tryd.func54, Tryd.ntmps54
    go_wp2
    go_loop [3, 4] (fun x i => ∃ j q : Nat, j ≤ ts.length ∧ i = .int .i64 ((j : Int) - 1) ∧ x = .int .i64 q ∧ q = unle (ts.drop j) ∧ q < 18014398509481984) (fun _ i => (intOf i + 1).toNat)
    case atStart => exact ⟨ts.length, 0, by omega, rfl, rfl, by simp [unle], by omega⟩
    case round =>
      obtain ⟨j, q, hj, rfl, rfl, hq, hql⟩ := hrel
      have HQ := hide hq
      have HQL := hide hql
      clear hq hql
      by_cases hlt : 1 ≤ j
      · obtain ⟨i, rfl⟩ : ∃ i, j = i + 1 := ⟨j - 1, by omega⟩
        by_cases hbig : (70368744177664 : Int) ≤ (q : Int)
        · first
          | (exfalso; omega)
          | (have HG := hide (gval_big ts (i + 1) hlt hj (by rw [← HQ.out]; omega))
             clear hcell
             have e1 : (((i + 1 : Nat) : Int) - 1) = (i : Int) := by omega
             rw [e1]
             clear e1
             go_wp2
             go_ret
             exact ⟨ret_int (by rw [HG.out]; rfl), rfl⟩)
        · first
          | (exfalso; omega)
          | (have e1 : (((i + 1 : Nat) : Int) - 1) = (i : Int) := by omega
             rw [e1]
             have c1 := hcell i (by omega)
             have hz1 := HB.out (ts.getD i 0) (by simp [List.getD, show i < ts.length by omega])
             have HT := hide (unle_drop ts i (by omega))
             clear hcell e1
             generalize ts.getD i 0 = z at c1 HT hz1
             obtain ⟨c, rfl⟩ := Int.eq_ofNat_of_zero_le hz1.1
             obtain ⟨_, hc2⟩ := hz1
             have hc : c < 256 := by omega
             clear hc2
             rw [Int.toNat_natCast] at HT
             go_wp2
             go_round
             case rel => exact ⟨i, c + 256 * q, by omega, by go_num, by go_num, by rw [HT.out, HQ.out], by omega⟩
             case measure => first | (simp [intOf]; done) | (simp [intOf]; omega))
      · have hj0 : j = 0 := by omega
        subst hj0
        have HG := hide (show gval ts = q from by
          have h1 := HQ.out
          rw [List.drop_zero] at h1
          have h2 := HQL.out
          rw [gval_small ts (by omega), ← h1])
        go_wp2
        go_ret
        exact ⟨ret_int (by rw [HG.out]), rfl⟩
end Go.Proofs.YtlgafpjmifacmaaDoor
