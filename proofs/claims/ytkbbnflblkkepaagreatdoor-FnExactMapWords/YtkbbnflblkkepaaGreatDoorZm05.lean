/- A number read at its width: number at its four widths. The model's numbers as bytes: l02Put, l02Get. The model's number of at most eight bytes: l02Get. The laws' own helpers over []int: a copy, two held against each other, marks. -/
import Derived.Test.YtkbbnflblkkepaaGreatDoorZm04
import Derived.Test.YtkbbnflblkkepaaGreatDoorZm02
import Derived.WalkLawsBesides
import Derived.Deep.QuietTactic
import Derived.BigQuiet
namespace Go.Proofs.YtkbbnflblkkepaaGreatDoor
open Go.RowKit

/-- The number that bytes are, the lowest first. -/
def unle : List Int → Nat
  | [] => 0
  | z :: zs => z.toNat + 256 * unle zs
theorem unle_snoc (zs : List Int) (z : Int) : unle (zs ++ [z]) = unle zs + z.toNat * 256 ^ zs.length := by
  induction zs with
  | nil => simp [unle]
  | cons y ys ih =>
    rw [List.cons_append, unle, ih, unle, List.length_cons, Nat.pow_succ]
    have : z.toNat * (256 ^ ys.length * 256) = 256 * (z.toNat * 256 ^ ys.length) := by rw [← Nat.mul_assoc, Nat.mul_comm]
    omega
theorem unle_lt (zs : List Int) (h : ∀ z ∈ zs, 0 ≤ z ∧ z < 256) : unle zs < 256 ^ zs.length := by
  induction zs with
  | nil => simp [unle]
  | cons y ys ih =>
    have h1 := h y (by simp)
    have h2 := ih (fun z hz => h z (by simp [hz]))
    rw [unle, List.length_cons, Nat.pow_succ]
    have : y.toNat < 256 := by omega
    have h3 : unle ys + 1 ≤ 256 ^ ys.length := h2
    have := Nat.mul_le_mul_left 256 h3
    omega
theorem unle_take (zs : List Int) (k : Nat) (h : k < zs.length) : unle (zs.take (k + 1)) = unle (zs.take k) + (zs.getD k 0).toNat * 256 ^ k := by
  rw [List.take_succ_eq_append_getElem h, unle_snoc, List.length_take, Nat.min_eq_left (by omega)]
  simp [List.getD, h]

theorem or_step (q c k : Nat) (hq : q < 256 ^ k) (hc : c < 256) (hk : k < 8) : bits .or .u64 (q : Int) (IntKind.u64.wrap (IntKind.u64.wrap (c : Int) * 2 ^ (8 * k))) = ((q + c * 256 ^ k : Nat) : Int) := by
  have hp : (256 : Nat) ^ k = 2 ^ (8 * k) := by rw [Nat.pow_mul]
  have hle : (256 : Nat) ^ (k + 1) ≤ 256 ^ 8 := Nat.pow_le_pow_right (by decide) (by omega)
  have hmul : c * 256 ^ k + 256 ^ k ≤ 256 ^ (k + 1) := by
    rw [Nat.pow_succ, Nat.mul_comm (256 ^ k)]
    have := Nat.mul_le_mul_right (256 ^ k) (show c + 1 ≤ 256 by omega)
    rw [Nat.add_mul, Nat.one_mul] at this
    exact this
  have h64 : (256 : Nat) ^ 8 = 18446744073709551616 := by decide
  have w1 : ∀ n : Nat, n < 18446744073709551616 → IntKind.u64.wrap (n : Int) = n := by
    intro n hn
    simp only [IntKind.wrap, IntKind.bits, IntKind.signed]
    simp
    omega
  rw [w1 c (by omega)]
  have e : (c : Int) * 2 ^ (8 * k) = ((c * 256 ^ k : Nat) : Int) := by rw [hp]; simp
  rw [e, w1 _ (by omega), u64_or_nat q (c * 256 ^ k) (by omega) (by omega), Nat.or_comm]
  rw [nat_join (8 * k) (c * 256 ^ k) q (by rw [hp, Nat.mul_mod_left]) (by rw [← hp]; exact hq), Nat.add_comm]
theorem or_step' (q c k : Nat) (hq : q < 256 ^ k) (hc : c < 256) (hk : k < 8) : bits .or .u64 (q : Int) (IntKind.u64.wrap ((c : Int) * 2 ^ (8 * k))) = ((q + c * 256 ^ k : Nat) : Int) := by
  have h := or_step q c k hq hc hk
  have w1 : IntKind.u64.wrap (c : Int) = c := by
    simp only [IntKind.wrap, IntKind.bits, IntKind.signed]
    simp
    omega
  rw [w1] at h
  exact h
/-- What number leaves, of m bytes: their number and a reader that much further; or 0 and a fault. -/
def Numd (w0 w w' : World) (b lo : Nat) (ok : Bool) (dv : Value) (zs : List Int) (pos m x : Nat) : Prop :=
  w.grownBy w' (some b) ∧ ((ok = true ∧ pos + m ≤ zs.length ∧ x = unle ((zs.drop pos).take m) ∧ Rdr w0 w' b lo true dv zs (pos + m)) ∨ (¬ (ok = true ∧ pos + m ≤ zs.length) ∧ x = 0 ∧ Rdr w0 w' b lo false dv zs pos))

set_option maxRecDepth 100000 in
set_option maxHeartbeats 1000000 in
theorem number32_any (w0 w : World) (b lo : Nat) (ok : Bool) (dv : Value) (zs : List Int) (pos : Nat) (h : Rdr w0 w b lo ok dv zs pos) (hz : zs.length ≤ 140737488355328) (hbd : ∀ z ∈ zs, 0 ≤ z ∧ z < 256) :
    Calls Tryz.prog 66 #[.pointer (some ⟨b, 0, none⟩)] w fun e w' => ∃ x : Nat, e = .returned (.int .i64 x) ∧ Numd w0 w w' b lo ok dv zs pos 4 x := by
  have H := hide h
  clear h
  go_enter Tryz.func66, Tryz.ntmps66
  go_wp2_with fail
  refine (width32 _).mono ?_
  rintro e w1 ⟨rfl, rfl⟩
  go_wp2_with fail
  refine (take_any w0 _ b lo ok dv zs pos 4 H.out (by omega) (by omega) hz).mono ?_
  rintro e w1 ⟨sv, rfl, hg, ht⟩
  rcases ht with ⟨hok, _, hle, hrd, hr⟩ | ⟨hno, rfl, hr⟩
  · have hlen : ((zs.drop pos).take ((4 : Nat) : Int).toNat).length = 4 := by simp; omega
    obtain ⟨bd, off, cap, rfl, hbw, _, _, hcell⟩ := (hr.lift hrd).partsC (by omega)
    have HB := hide (show ∀ z ∈ (zs.drop pos).take 4, 0 ≤ z ∧ z < 256 from fun z hz => hbd z (List.mem_of_mem_drop (List.mem_of_mem_take hz)))
    have HE := hide (show ∀ x, x = unle ((zs.drop pos).take 4) → Numd w0 w w1 b lo ok dv zs pos 4 x from
      fun x hx => ⟨hg, .inl ⟨hok, by omega, hx, hr⟩⟩)
    rw [hlen] at hcell ⊢
    rw [Int.toNat_natCast] at hcell hlen
    generalize (zs.drop pos).take 4 = ts at hcell HB hlen HE
    have HL := hide hlen
    clear hrd hr hg hok hlen
    go_wp2
    go_loop [3, 10] (fun v i => ∃ k q : Nat, k ≤ 4 ∧ i = .int .i64 k ∧ v = .int .u64 q ∧ q = unle (ts.take k)) (fun _ i => 4 - (intOf i).toNat)
    case atStart => exact ⟨0, 0, by omega, rfl, rfl, rfl⟩
    case round =>
      obtain ⟨k, q, hk, rfl, rfl, hq⟩ := hrel
      have HQ := hide hq
      clear hq
      by_cases hlt : k < 4
      · have c1 := hcell k hlt
        have hkl : k < ts.length := by rw [HL.out]; exact hlt
        have hz1 := HB.out (ts.getD k 0) (by simp [List.getD, hkl])
        have HT := hide (unle_take ts k hkl)
        have HQ2 := hide (show q < 256 ^ k from by
          have := unle_lt (ts.take k) (fun z hz => HB.out z (List.mem_of_mem_take hz))
          rw [← HQ.out, List.length_take, Nat.min_eq_left (by omega)] at this
          exact this)
        clear hcell hkl
        generalize ts.getD k 0 = z at c1 HT hz1
        obtain ⟨c, rfl⟩ := Int.eq_ofNat_of_zero_le hz1.1
        obtain ⟨_, hc2⟩ := hz1
        have hc : c < 256 := by omega
        clear hc2
        rw [Int.toNat_natCast] at HT
        have hor := or_step' q c k HQ2.out hc (by omega)
        generalize c * 256 ^ k = cc at hor HT
        go_wp2
        go_round
        case rel => exact ⟨k + 1, _, by omega, by go_num, rfl, by rw [HT.out, ← HQ.out]⟩
        case measure => simp [intOf]; omega
      · have hk4 : k = 4 := by omega
        subst hk4
        have HQ3 := hide (show q = unle ts ∧ q < 4294967296 from by
          have h1 := HQ.out
          rw [List.take_of_length_le (by rw [HL.out]; omega)] at h1
          refine ⟨h1, ?_⟩
          have h2 := unle_lt ts HB.out
          rw [HL.out, ← h1] at h2
          exact h2)
        have hql : q < 4294967296 := HQ3.out.2
        go_wp2
        go_ret
        exact ⟨q, rfl, HE.out q HQ3.out.1⟩
  · have HE := hide (show Numd w0 w w1 b lo ok dv zs pos 4 0 from
      ⟨hg, .inr ⟨fun h => hno ⟨h.1, by omega, by omega⟩, rfl, hr⟩⟩)
    clear hr hg hno
    go_wp2
    refine wp_loop_rounds 1 ?_
    rw [rounds_succ]
    go_wp2
    go_ret
    exact ⟨0, rfl, HE.out⟩

set_option maxRecDepth 100000 in
set_option maxHeartbeats 1000000 in
theorem number64_any (w0 w : World) (b lo : Nat) (ok : Bool) (dv : Value) (zs : List Int) (pos : Nat) (h : Rdr w0 w b lo ok dv zs pos) (hz : zs.length ≤ 140737488355328) (hbd : ∀ z ∈ zs, 0 ≤ z ∧ z < 256) :
    Calls Tryz.prog 65 #[.pointer (some ⟨b, 0, none⟩)] w fun e w' => ∃ x : Nat, e = .returned (.int .i64 (wrap64 x)) ∧ Numd w0 w w' b lo ok dv zs pos 8 x := by
  have H := hide h
  clear h
  go_enter Tryz.func65, Tryz.ntmps65
  go_wp2_with fail
  refine (width64 _).mono ?_
  rintro e w1 ⟨rfl, rfl⟩
  go_wp2_with fail
  refine (take_any w0 _ b lo ok dv zs pos 8 H.out (by omega) (by omega) hz).mono ?_
  rintro e w1 ⟨sv, rfl, hg, ht⟩
  rcases ht with ⟨hok, _, hle, hrd, hr⟩ | ⟨hno, rfl, hr⟩
  · have hlen : ((zs.drop pos).take ((8 : Nat) : Int).toNat).length = 8 := by simp; omega
    obtain ⟨bd, off, cap, rfl, hbw, _, _, hcell⟩ := (hr.lift hrd).partsC (by omega)
    have HB := hide (show ∀ z ∈ (zs.drop pos).take 8, 0 ≤ z ∧ z < 256 from fun z hz => hbd z (List.mem_of_mem_drop (List.mem_of_mem_take hz)))
    have HE := hide (show ∀ x, x = unle ((zs.drop pos).take 8) → Numd w0 w w1 b lo ok dv zs pos 8 x from
      fun x hx => ⟨hg, .inl ⟨hok, by omega, hx, hr⟩⟩)
    rw [hlen] at hcell ⊢
    rw [Int.toNat_natCast] at hcell hlen
    generalize (zs.drop pos).take 8 = ts at hcell HB hlen HE
    have HL := hide hlen
    clear hrd hr hg hok hlen
    go_wp2
    go_loop [3, 10] (fun v i => ∃ k q : Nat, k ≤ 8 ∧ i = .int .i64 k ∧ v = .int .u64 q ∧ q = unle (ts.take k)) (fun _ i => 8 - (intOf i).toNat)
    case atStart => exact ⟨0, 0, by omega, rfl, rfl, rfl⟩
    case round =>
      obtain ⟨k, q, hk, rfl, rfl, hq⟩ := hrel
      have HQ := hide hq
      clear hq
      by_cases hlt : k < 8
      · have c1 := hcell k hlt
        have hkl : k < ts.length := by rw [HL.out]; exact hlt
        have hz1 := HB.out (ts.getD k 0) (by simp [List.getD, hkl])
        have HT := hide (unle_take ts k hkl)
        have HQ2 := hide (show q < 256 ^ k from by
          have := unle_lt (ts.take k) (fun z hz => HB.out z (List.mem_of_mem_take hz))
          rw [← HQ.out, List.length_take, Nat.min_eq_left (by omega)] at this
          exact this)
        clear hcell hkl
        generalize ts.getD k 0 = z at c1 HT hz1
        obtain ⟨c, rfl⟩ := Int.eq_ofNat_of_zero_le hz1.1
        obtain ⟨_, hc2⟩ := hz1
        have hc : c < 256 := by omega
        clear hc2
        rw [Int.toNat_natCast] at HT
        have hor := or_step' q c k HQ2.out hc (by omega)
        generalize c * 256 ^ k = cc at hor HT
        go_wp2
        go_round
        case rel => exact ⟨k + 1, _, by omega, by go_num, rfl, by rw [HT.out, ← HQ.out]⟩
        case measure => simp [intOf]; omega
      · have hk4 : k = 8 := by omega
        subst hk4
        have HQ3 := hide (show q = unle ts ∧ q < 18446744073709551616 from by
          have h1 := HQ.out
          rw [List.take_of_length_le (by rw [HL.out]; omega)] at h1
          refine ⟨h1, ?_⟩
          have h2 := unle_lt ts HB.out
          rw [HL.out, ← h1] at h2
          exact h2)
        go_wp2
        go_ret
        exact ⟨q, rfl, HE.out q HQ3.out.1⟩
  · have HE := hide (show Numd w0 w w1 b lo ok dv zs pos 8 0 from
      ⟨hg, .inr ⟨fun h => hno ⟨h.1, by omega, by omega⟩, rfl, hr⟩⟩)
    clear hr hg hno
    go_wp2
    refine wp_loop_rounds 1 ?_
    rw [rounds_succ]
    go_wp2
    go_ret
    exact ⟨0, ret_int (show (0 : Int) = wrap64 ((0 : Nat) : Int) from by unfold wrap64; decide), HE.out⟩
end Go.Proofs.YtkbbnflblkkepaaGreatDoor

namespace Go.Proofs.YtkbbnflblkkepaaGreatDoor
open Go.RowKit

theorem own_empty (w : World) (e : TypeId) : (w.alloc (.cells #[] e)).ownsRow w.heap.size e 1 (.slice (some ⟨w.heap.size, 0, none⟩) 0 0) 0 [] := by
  have h := World.ownsRow_lit (base := w.heap.size) (e := e) (size := 1) w #[] 0 (Nat.le_refl _) (by simp) rfl
  simpa using h

set_option maxRecDepth 100000 in
set_option maxHeartbeats 400000 in
theorem put_any (v n : Nat) (w : World) (hv : v < 281474976710656) (hn : n ≤ 8) :
    Calls Tryz.prog 54 #[.int .i64 v, .int .i64 n] w fun e w' => ∃ v', e = .returned v' ∧ w'.ownsRow w.heap.size 5 1 v' n ((le n v).map (Value.int .u8)) ∧ Below w.heap.size w w' := by
  obtain ⟨i0, hi, hz0, hz1, hz2⟩ := info_parts infoU8
  have h0 := own_empty w 5
  have hb0 : Below w.heap.size w (w.alloc (.cells #[] 5)) := (Below.refl _ _).alloc (Nat.le_refl _) _
  go_enter Tryz.func54, Tryz.ntmps54
  go_wp2
  go_loopw [0, 5, 6] (fun x o i wr => ∃ (j q : Nat) (ys : List Int), j ≤ n ∧ i = .int .i64 j ∧ x = .int .i64 q ∧ q < 281474976710656 ∧ le n v = ys ++ le (n - j) q ∧ wr.ownsRow w.heap.size 5 1 o j (ys.map (Value.int .u8)) ∧ Below w.heap.size w wr) (fun _ _ i _ => n - (intOf i).toNat)
  case atStart => exact ⟨0, v, [], Nat.zero_le _, rfl, rfl, hv, rfl, by simpa using h0, hb0⟩
  case round =>
    clear h0 hb0
    obtain ⟨j, q, ys, hj, rfl, rfl, hq, hle, hown, hb⟩ := hrel
    have HL : Hid (le n v = ys ++ le (n - j) q) := hle
    clear hle
    have hsz := hb.size
    by_cases hlt : j < n
    · go_wp2_with (at_builtin; refine wpList_append_own _ rfl _ _ 22 rfl w.heap.size 5 i0 (.int .u8 0) 1 1 Tryz.underlying22 hi hz0 hz1 hz2 rfl (by decide) _ _ _ rfl (hown.alloc _) ⟨wr.heap.size, 0, none⟩ 1 1 [.int .u8 ((q : Int) % 256)] rfl rfl (cell_one_new _ _ _) (one_u8 _) (by unfold maxLen; omega) (by omega) (by simp; omega) ?_; intro v1 w1 hown1 hgr1 _)
      have HW : Hid (w1.ownsRow w.heap.size 5 1 v1 (j + 1) ((ys ++ [((q % 256 : Nat) : Int)]).map (Value.int .u8)) ∧ Below w.heap.size w w1) := by
        refine ⟨?_, (hb.alloc hsz _).grown hgr1 (by simp; omega) (fun k h => (hown.lt k h).1)⟩
        have e : (ys ++ [((q % 256 : Nat) : Int)]).map (Value.int .u8) = ys.map (Value.int .u8) ++ [.int .u8 ((q : Int) % 256)] := by simp
        rw [e]
        exact hown1
      clear hown hown1 hgr1 hb
      go_roundw
      case rel => exact ⟨j + 1, q / 256, ys ++ [((q % 256 : Nat) : Int)], by omega, by go_num, by go_num, by omega, by rw [HL.out]; exact le_step ys n j q hlt, HW.out.1, HW.out.2⟩
      case measure => simp [intOf]; omega
    · go_wp2
      go_ret
      have e : j = n := by omega
      subst e
      have h := HL.out
      rw [Nat.sub_self, le, List.append_nil] at h
      rw [h]
      exact ⟨_, rfl, hown, hb⟩

theorem put_pos (v n : Nat) (w : World) (hv : v < 281474976710656) (hn : n ≤ 8) (h0 : 0 < n) :
    Calls Tryz.prog 54 #[.int .i64 v, .int .i64 n] w fun e w' => ∃ g cp, e = .returned (.slice (some ⟨g, 0, none⟩) n cp) ∧ w'.ownsRow w.heap.size 5 1 (.slice (some ⟨g, 0, none⟩) n cp) n ((le n v).map (Value.int .u8)) ∧ Below w.heap.size w w' := by
  refine (put_any v n w hv hn).mono ?_
  rintro e w' ⟨v', rfl, ho, hb⟩
  rcases ho.2 with ⟨rfl, hn0⟩ | ⟨g, cap, cur, rfl, _⟩
  · omega
  · exact ⟨g, cap, rfl, ho, hb⟩
end Go.Proofs.YtkbbnflblkkepaaGreatDoor

namespace Go.Proofs.YtkbbnflblkkepaaGreatDoor
open Go.RowKit

def gval (ts : List Int) : Nat := if 70368744177664 ≤ unle ts / 256 then 4611686018427387904 else unle ts
theorem unle_drop (ts : List Int) (j : Nat) (h : j < ts.length) : unle (ts.drop j) = (ts.getD j 0).toNat + 256 * unle (ts.drop (j + 1)) := by
  rw [List.drop_eq_getElem_cons h, unle]
  simp [List.getD, h]
theorem unle_ge (ts : List Int) : ∀ j, 1 ≤ j → j ≤ ts.length → 256 * unle (ts.drop j) ≤ unle ts
  | 0, h, _ => by omega
  | 1, _, h2 => by
    have h := unle_drop ts 0 (by omega)
    rw [List.drop_zero, Nat.zero_add] at h
    rw [h]; omega
  | j + 2, _, h2 => by
    have h := unle_drop ts (j + 1) (by omega)
    have ih := unle_ge ts (j + 1) (by omega) (by omega)
    have e : j + 1 + 1 = j + 2 := rfl
    rw [e] at h
    omega
theorem gval_big (ts : List Int) (j : Nat) (h1 : 1 ≤ j) (h2 : j ≤ ts.length) (h : 70368744177664 ≤ unle (ts.drop j)) : gval ts = 4611686018427387904 := by
  have := unle_ge ts j h1 h2
  unfold gval
  rw [if_pos (by omega)]
theorem gval_small (ts : List Int) (h : unle ts < 18014398509481984) : gval ts = unle ts := by
  unfold gval
  rw [if_neg (by omega)]

set_option maxRecDepth 100000 in
set_option maxHeartbeats 400000 in
theorem get_any (v : Value) (ts : List Int) (w : World) (h : Rd .u8 w v ts) (hl : ts.length ≤ 8) (hbd : ∀ z ∈ ts, 0 ≤ z ∧ z < 256) :
    Calls Tryz.prog 22 #[v] w fun e w' => e = .returned (.int .i64 (gval ts)) ∧ w = w' := by
  have HB := hide hbd
  clear hbd
  rcases h.parts with ⟨a, cap, rfl, hlow⟩ | ⟨b, off, cap, rfl, hbw, hcell⟩
  all_goals
    clear h
    go_enter Tryz.func22, Tryz.ntmps22
    go_wp2
    go_loop [3, 4] (fun x i => ∃ j q : Nat, j ≤ ts.length ∧ i = .int .i64 ((j : Int) - 1) ∧ x = .int .i64 q ∧ q = unle (ts.drop j) ∧ q < 18014398509481984) (fun _ i => (intOf i + 1).toNat)
    case atStart => exact ⟨ts.length, 0, by omega, rfl, rfl, by simp [unle], by omega⟩
    case round =>
      obtain ⟨j, q, hj, rfl, rfl, hq, hql⟩ := hrel
      have HQ := hide hq
      have HQL := hide hql
      clear hq hql
      by_cases hlt : 1 ≤ j
      · obtain ⟨i, rfl⟩ : ∃ i, j = i + 1 := ⟨j - 1, by omega⟩
        by_cases hbig : (70368744177664 : Int) ≤ (q : Int)
        · first
          | (exfalso; omega)
          | (have HG := hide (gval_big ts (i + 1) hlt hj (by rw [← HQ.out]; omega))
             clear hcell
             have e1 : (((i + 1 : Nat) : Int) - 1) = (i : Int) := by omega
             rw [e1]
             clear e1
             go_wp2
             go_ret
             exact ⟨ret_int (by rw [HG.out]; rfl), rfl⟩)
        · first
          | (exfalso; omega)
          | (have e1 : (((i + 1 : Nat) : Int) - 1) = (i : Int) := by omega
             rw [e1]
             have c1 := hcell i (by omega)
             have hz1 := HB.out (ts.getD i 0) (by simp [List.getD, show i < ts.length by omega])
             have HT := hide (unle_drop ts i (by omega))
             clear hcell e1
             generalize ts.getD i 0 = z at c1 HT hz1
             obtain ⟨c, rfl⟩ := Int.eq_ofNat_of_zero_le hz1.1
             obtain ⟨_, hc2⟩ := hz1
             have hc : c < 256 := by omega
             clear hc2
             rw [Int.toNat_natCast] at HT
             go_wp2
             go_round
             case rel => exact ⟨i, c + 256 * q, by omega, by go_num, by go_num, by rw [HT.out, HQ.out], by omega⟩
             case measure => first | (simp [intOf]; done) | (simp [intOf]; omega))
      · have hj0 : j = 0 := by omega
        subst hj0
        have HG := hide (show gval ts = q from by
          have h1 := HQ.out
          rw [List.drop_zero] at h1
          have h2 := HQL.out
          rw [gval_small ts (by omega), ← h1])
        go_wp2
        go_ret
        exact ⟨ret_int (by rw [HG.out]), rfl⟩
end Go.Proofs.YtkbbnflblkkepaaGreatDoor

namespace Go.Proofs.YtkbbnflblkkepaaGreatDoor
open Go.RowKit

theorem infoI64 : (Tryz.prog.info? 3).map (fun i => (i.zero, i.size, i.bytes)) = some (some (.int .i64 0), 1, 8) := by kernel_rfl

set_option maxHeartbeats 400000 in
theorem eqIntS_any (v1 v2 : Value) (xs ys : List Int) (w : World) (h1 : Rd .i64 w v1 xs) (h2 : Rd .i64 w v2 ys) :
    Calls Tryz.prog 7 #[v1, v2] w fun e w' => e = .returned (.bool (decide (xs = ys))) ∧ Below w.heap.size w w' := by
  have hm := h1.len
  have hm2 := h2.len
  unfold maxLen at hm hm2
  by_cases hlen : xs.length = ys.length
  · have p1 : At .i64 w v1 xs.length xs := h1.parts
    have p2 : At .i64 w v2 ys.length ys := h2.parts
    rw [← hlen] at p2
    have HL : Hid (xs.length = ys.length) := hlen
    clear hlen h1 h2 hm2
    generalize hn : xs.length = n at *
    have HN : Hid (xs.length = n) := hn
    clear hn
    rcases p1 with ⟨a1, cap1, rfl, hlow⟩ | ⟨b1, off1, cap1, rfl, hbw1, hcell1⟩ <;> rcases p2 with ⟨a2, cap2, rfl, hlow2⟩ | ⟨b2, off2, cap2, rfl, hbw2, hcell2⟩
    all_goals
      go_enter Tryz.func7, Tryz.ntmps7
      go_wp2
      go_loopw [5] (fun i wr => ∃ k nq : Nat, k ≤ n ∧ i = .int .i64 k ∧ wr = w.drewN nq ∧ xs.take k = ys.take k) (fun i _ => n - (intOf i).toNat)
      case atStart => exact ⟨0, 0, Nat.zero_le _, rfl, rfl, rfl⟩
      case round =>
        obtain ⟨k, nq, hk, rfl, rfl, ht⟩ := hrel
        have HT : Hid (xs.take k = ys.take k) := ht
        clear ht
        by_cases hlt : k < n
        · first
          | omega
          | (have c1 := hcell1 k hlt
             have c2 := hcell2 k hlt
             have HX : Hid (xs.getD k 0 = ys.getD k 0 → xs.take (k + 1) = ys.take (k + 1)) := fun he => take_eq_step xs ys k (by have := HN.out; omega) (by have := HL.out; omega) HT.out he
             have HY : Hid (xs.getD k 0 ≠ ys.getD k 0 → ¬ xs = ys) := fun he h => he (by rw [h])
             generalize xs.getD k 0 = x at c1 HX HY
             generalize ys.getD k 0 = y at c2 HX HY
             have hlt' : (k : Int) < (n : Int) := by omega
             clear hcell1 hcell2
             by_cases hxy : x = y
             · have hq : (x != y) = false := by simp [hxy]
               have HXY : Hid (x = y) := hxy
               clear hxy
               go_wp2
               go_quiet (fail)
               go_wp2
               go_roundw
               case rel => exact ⟨k + 1, _, by omega, by go_num, rfl, HX.out HXY.out⟩
               case measure => simp [intOf]; omega
             · have hq : (x != y) = true := by simpa using hxy
               have HXY : Hid (x ≠ y) := hxy
               clear hxy
               go_wp2
               go_quiet (fail)
               go_wp2
               go_ret
               exact ⟨ret_bool (by have := HY.out HXY.out; simp [this]), below_drewN (below_drewN (Below.refl _ _) _) _⟩)
        · go_wp2
          go_ret
          have : k = n := by omega
          subst this
          have e1 := HT.out
          rw [List.take_of_length_le (by have := HN.out; omega), List.take_of_length_le (by have := HL.out; omega)] at e1
          exact ⟨ret_bool (by simp [e1]), below_drewN (Below.refl _ _) _⟩
  · obtain ⟨a1, cap1, rfl, _, _⟩ := h1
    obtain ⟨a2, cap2, rfl, _, _⟩ := h2
    have hq : ((xs.length : Int) == (ys.length : Int)) = false := by simp; omega
    have HF : Hid (¬ xs = ys) := fun h => hlen (by rw [h])
    clear hlen
    go_enter Tryz.func7, Tryz.ntmps7
    go_wp2
    go_ret
    exact ⟨ret_bool (by simp [HF.out]), Below.refl _ _⟩
set_option maxHeartbeats 400000 in
theorem markIntS_any (v : Value) (base n k0 : Nat) (xs : List Value) (w : World) (h : w.ownsRow base 3 1 v n xs) (hn : n ≤ 140737488355328) (hk0 : k0 ≤ 140737488355328) :
    Calls Tryz.prog 10 #[v, .int .i64 k0] w fun e w' => e = .returned (.int .i64 ((k0 + n : Nat) : Int)) ∧ w'.ownsRow base 3 1 v n ((mk64 k0 n).map (Value.int .i64)) ∧ w.grownBy w' v.ownBlock := by
  rcases h.2 with ⟨rfl, rfl⟩ | ⟨g, cap, cur, rfl, hb, hg, hnc, hcm, hcs, htake⟩
  · clear h
    go_enter Tryz.func10, Tryz.ntmps10
    go_wp2
    refine wp_loop_rounds 1 ?_
    rw [rounds_succ]
    go_wp2
    go_ret
    exact ⟨rfl, World.ownsRow_nil _ _ _ _, World.grownBy.refl _ _⟩
  · have hown : w.ownsRow base 3 1 (.slice (some ⟨g, 0, none⟩) n cap) n xs := h
    have hxl : xs.length = n := by have := h.1; omega
    clear h hg hcs htake hb
    go_enter Tryz.func10, Tryz.ntmps10
    go_wp2
    go_loopw [1, 5] (fun q i wr => ∃ k : Nat, k ≤ n ∧ i = .int .i64 k ∧ q = .int .i64 ((k0 + k : Nat) : Int) ∧ wr.ownsRow base 3 1 (.slice (some ⟨g, 0, none⟩) n cap) n (((mk64 k0 n).map (Value.int .i64)).take k ++ xs.drop k) ∧ w.grownBy wr (some g)) (fun _ i _ => n - (intOf i).toNat)
    case atStart => exact ⟨0, Nat.zero_le _, rfl, rfl, by simpa using hown, World.grownBy.refl _ _⟩
    case round =>
      clear hown
      obtain ⟨k, hk, rfl, rfl, hown, hgr⟩ := hrel
      by_cases hlt : k < n
      · have hst := hown.stored k (.int .i64 ((k0 + k : Nat) : Int))
        have hfr := hown.frozenAt k
        obtain ⟨old, hco⟩ : ∃ u, wr.cell? ⟨g, k, none⟩ = some u := by
          rw [hown.cellAt k (by omega)]
          exact ⟨_, List.getElem?_eq_getElem (by simp [mk64_len]; omega)⟩
        have HS : Hid ((wr.setCell ⟨g, k, none⟩ (.int .i64 ((k0 + k : Nat) : Int))).ownsRow base 3 1 (.slice (some ⟨g, 0, none⟩) n cap) n (((mk64 k0 n).map (Value.int .i64)).take (k + 1) ++ xs.drop (k + 1)) ∧ w.grownBy (wr.setCell ⟨g, k, none⟩ (.int .i64 ((k0 + k : Nat) : Int))) (some g)) := by
          refine ⟨?_, grownBy_trans hgr hst.2⟩
          rw [← set_over ((mk64 k0 n).map (Value.int .i64)) xs (.int .i64 ((k0 + k : Nat) : Int)) k n hlt (by simp [mk64_len]) hxl (by simp [mk64_get k0 n k hlt])]
          exact hst.1
        clear hst hown hgr hxl
        generalize hq : k0 + k = q at *
        have HQ : Hid (k0 + k = q) := hq
        have hql : q ≤ 281474976710656 := by omega
        clear hq
        go_wp2
        go_roundw
        case rel => exact ⟨k + 1, by omega, by go_num, by rw [← Nat.add_assoc, HQ.out]; go_num, HS.out.1, HS.out.2⟩
        case measure => simp [intOf]; omega
      · go_wp2
        go_ret
        have : k = n := by omega
        subst this
        have e : ((mk64 k0 k).map (Value.int .i64)).take k = (mk64 k0 k).map (Value.int .i64) := List.take_of_length_le (by simp [mk64_len])
        rw [e, List.drop_of_length_le (by omega)] at hown
        exact ⟨rfl, by simpa using hown, hgr⟩

set_option maxHeartbeats 400000 in
theorem heldIntS_any (v : Value) (n k0 : Nat) (w : World) (h : Rd .i64 w v (mk64 k0 n)) (hn : n ≤ 140737488355328) (hk0 : k0 ≤ 140737488355328) :
    Calls Tryz.prog 11 #[v, .int .i64 k0] w fun e w' => e = .returned (.int .i64 ((k0 + n : Nat) : Int)) ∧ w' = w := by
  have hp := h.parts
  rw [mk64_len] at hp
  rcases hp with ⟨a, cap, rfl, hlow⟩ | ⟨b, off, cap, rfl, hbw, hcell⟩
  all_goals
    clear h
    go_enter Tryz.func11, Tryz.ntmps11
    go_wp2
    go_loop [1, 5] (fun q i => ∃ k : Nat, k ≤ n ∧ i = .int .i64 k ∧ q = .int .i64 ((k0 + k : Nat) : Int)) (fun _ i => n - (intOf i).toNat)
    case atStart => exact ⟨0, Nat.zero_le _, rfl, rfl⟩
    case round =>
      obtain ⟨k, hk, rfl, rfl⟩ := hrel
      by_cases hlt : k < n
      · first
        | omega
        | (have c1 := hcell k hlt
           rw [mk64_getD k0 n k hlt] at c1
           clear hcell
           generalize hq : k0 + k = q at *
           have HQ : Hid (k0 + k = q) := hq
           have hql : q ≤ 281474976710656 := by omega
           clear hq
           go_wp2
           go_round
           case rel => exact ⟨k + 1, by omega, by go_num, by rw [← Nat.add_assoc, HQ.out]; go_num⟩
           case measure => simp [intOf]; omega)
      · go_wp2
        go_ret
        have : k = n := by omega
        subst this
        exact ⟨rfl, rfl⟩

theorem eqIntS_same (v1 v2 : Value) (xs : List Int) (w : World) (h1 : Rd .i64 w v1 xs) (h2 : Rd .i64 w v2 xs) :
    Calls Tryz.prog 7 #[v1, v2] w fun e w' => e = .returned (.bool true) ∧ Below w.heap.size w w' := by
  refine (eqIntS_any v1 v2 xs xs w h1 h2).mono ?_
  rintro e w' ⟨rfl, hb⟩
  exact ⟨by simp, hb⟩
end Go.Proofs.YtkbbnflblkkepaaGreatDoor
