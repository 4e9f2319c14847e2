/- The program's reader of bytes: take, number, zeros, end, at a reader that lies in a block of its own. A number read at its width: number at its four widths. take at no bytes and at less than none; zeros and end. -/
import Derived.Test.YtplieplmhdfndaaGreatDoorZg03
import Derived.Deep.RegionHeld
import Derived.Deep.RegionWith
import Derived.BigQuiet
import Derived.Deep.QuietTactic
namespace Go.Proofs.YtplieplmhdfndaaGreatDoor
open Go.RowKit

/-- A reader at block b (made in the world w0, of which b is the first new block): its check; what it reads, a slice that was there before it; how far it is. -/
structure Rdr (w0 w : World) (b lo : Nat) (ok : Bool) (dv : Value) (zs : List Int) (pos : Nat) : Prop where
  ck : Ck w b lo 21 ok
  data : w.cell? ⟨b, 2, none⟩ = some dv
  at_ : w.cell? ⟨b, 3, none⟩ = some (.int .i64 pos)
  fr : w.frozen? ⟨b, 3, none⟩ = false
  old : Below b w0 w
  size : w0.heap.size = b
  rd : Rd .u8 w0 dv zs
  le : pos ≤ zs.length
  lo1 : b < lo
  lo2 : lo ≤ w.heap.size

theorem Rdr.read {w0 w : World} {b lo : Nat} {ok : Bool} {dv : Value} {zs : List Int} {pos : Nat} (h : Rdr w0 w b lo ok dv zs pos) : Rd .u8 w dv zs :=
  h.rd.below (by rw [h.size]; exact h.old)
theorem Rdr.tch {w0 w w' : World} {b lo : Nat} {ok ok' : Bool} {dv : Value} {zs : List Int} {pos : Nat} (h : Rdr w0 w b lo ok dv zs pos) (hc : Ck w' b lo 21 ok') (ht : Tch b w w') : Rdr w0 w' b lo ok' dv zs pos :=
  ⟨hc, (ht.2.1 2 (by omega)).trans h.data, (ht.2.1 3 (by omega)).trans h.at_, (ht.2.2 3).trans h.fr, ht.under h.old (Nat.le_refl _) (Nat.le_of_lt h.ck.lt), h.size, h.rd, h.le, h.lo1, Nat.le_trans h.lo2 ht.1.size⟩
theorem Rdr.lift {w0 w : World} {b lo : Nat} {ok : Bool} {dv : Value} {zs : List Int} {pos : Nat} (h : Rdr w0 w b lo ok dv zs pos) {v : Value} {xs : List Int} (hx : Rd .u8 w0 v xs) : Rd .u8 w v xs :=
  hx.below (by rw [h.size]; exact h.old)
/-- What take leaves: the bytes asked for and a reader that much further; or nothing and a fault. -/
def Took (w0 w w' : World) (b lo : Nat) (ok : Bool) (dv : Value) (zs : List Int) (pos : Nat) (n : Int) (sv : Value) : Prop :=
  w.grownBy w' (some b) ∧
    ((ok = true ∧ 0 ≤ n ∧ (pos : Int) + n ≤ zs.length ∧ Rd .u8 w0 sv ((zs.drop pos).take n.toNat) ∧ Rdr w0 w' b lo true dv zs (pos + n.toNat)) ∨
     (¬ (ok = true ∧ 0 ≤ n ∧ (pos : Int) + n ≤ zs.length) ∧ sv = .slice none 0 0 ∧ Rdr w0 w' b lo false dv zs pos))
theorem Rdr.moved {w0 w1 : World} {b lo : Nat} {dv : Value} {zs : List Int} {pos : Nat} (h : Rdr w0 w1 b lo true dv zs pos) (p nq : Nat) (hp : p ≤ zs.length) (v : Value) (hv : v = .int .i64 p) : Rdr w0 ((w1.setCell ⟨b, 3, none⟩ v).drewN nq) b lo true dv zs p := by
  subst hv
  have ho : ∀ o, o ≠ 3 → (⟨b, 3, none⟩ : Addr) ≠ ⟨b, o, none⟩ := fun o ho e => by injection e with e1 e2; omega
  obtain ⟨c1, c2, ev, c3, c4⟩ := h.ck
  refine ⟨⟨?_, ?_, ev, ?_, ?_⟩, ?_, ?_, ?_, ?_, h.size, h.rd, hp, h.lo1, ?_⟩
  · exact (World.cell?_setCell_other w1 ⟨b, 3, none⟩ ⟨b, 0, none⟩ _ (ho 0 (by omega))).trans c1
  · have := c2; simpa using this
  · exact (World.cell?_setCell_other w1 ⟨b, 3, none⟩ ⟨b, 1, none⟩ _ (ho 1 (by omega))).trans c3
  · rcases c4 with c4 | ⟨c4, _⟩
    · exact .inl c4
    · cases c4
  · exact (World.cell?_setCell_other w1 ⟨b, 3, none⟩ ⟨b, 2, none⟩ _ (ho 2 (by omega))).trans h.data
  · exact World.cell?_setCell_same w1 ⟨b, 3, none⟩ _ h.at_
  · have := h.fr; simpa using this
  · exact below_drewN (h.old.setCell (Nat.le_refl _) _) nq
  · have := h.lo2; simpa using this

set_option maxRecDepth 100000 in
set_option maxHeartbeats 1000000 in
theorem take_any (w0 w : World) (b lo : Nat) (ok : Bool) (dv : Value) (zs : List Int) (pos n : Nat) (h : Rdr w0 w b lo ok dv zs pos) (hn0 : 0 < n) (hn : n ≤ 4294967296) (hz : zs.length ≤ 140737488355328) :
    Calls Tryz.prog 136 #[.pointer (some ⟨b, 0, none⟩), .int .i64 n] w fun e w' => ∃ sv, e = .returned sv ∧ Took w0 w w' b lo ok dv zs pos n sv := by
  have hd := h.data
  have ha := h.at_
  have hl := h.le
  have hlt := h.ck.lt
  by_cases hfit : n ≤ zs.length - pos
  · obtain ⟨bd, off, cap, rfl, hbd, hcl, hcm, hcell⟩ := h.read.partsC (by omega)
    have HP := hide (And.intro hcell hbd)
    have H := hide h
    unfold maxLen at hcm
    clear h hcell
    have HQ := hide (show decide ((n : Int) ≤ IntKind.i64.wrap ((zs.length : Int) - (pos : Int))) = true from by rw [IntKind.wrap_i64]; simp; omega)
    go_enter Tryz.func136, Tryz.ntmps136
    go_wp2
    go_region_held (fun w' => w'.cell? ⟨b, 2, none⟩ = some (.slice (some ⟨bd, off, none⟩) zs.length cap) ∧ w'.cell? ⟨b, 3, none⟩ = some (.int .i64 pos)) (go_keep) ((go_at_call 86; refine (need_any b lo _ 21 ok (decide ((n : Int) ≤ IntKind.i64.wrap ((zs.length : Int) - (pos : Int)))) _ (H.out.ck.below ((Below.refl _ _).drew)) H.out.lo1 H.out.lo2).mono ?_; rintro e w1 ⟨rfl, hc1, ht1⟩; have hd1 := (ht1.2.1 2 (by omega)).trans hd; have ha1 := (ht1.2.1 3 (by omega)).trans ha))
    rw [HQ.out, Bool.and_true] at hc1
    have ht1' : Tch b w w1 := (Tch.of_below hlt ((Below.refl _ _).drew)).trans ht1
    have R1 := hide (H.out.tch hc1 ht1')
    have G1 := hide ht1'.1
    have hf1 := R1.out.fr
    obtain ⟨c1, c2, ev, c3, c4⟩ := hc1
    clear ht1 ht1'
    rcases c4 with ⟨rfl, rfl⟩ | ⟨rfl, m, c4⟩
    · have k2 : (w1.setCell ⟨b, 3, none⟩ (.int .i64 ((pos : Int) + (n : Int)))).cell? ⟨b, 2, none⟩ = some (.slice (some ⟨bd, off, none⟩) zs.length cap) := by
        rw [World.cell?_setCell_other _ _ _ _ (by intro e; injection e with e1 e2; omega)]; exact hd1
      have k3 : (w1.setCell ⟨b, 3, none⟩ (.int .i64 ((pos : Int) + (n : Int)))).cell? ⟨b, 3, none⟩ = some (.int .i64 ((pos : Int) + (n : Int))) := World.cell?_setCell_same _ _ _ ha1
      go_wp2
      go_quiet (fail)
      go_wp2
      go_ret
      refine ⟨_, rfl, ?_, .inl ⟨rfl, by omega, by omega, ?_, ?_⟩⟩
      · exact ⟨G1.out.os, G1.out.tape, G1.out.output, by simpa using G1.out.size, fun k hk hne => (Below.heap_setCell w1 ⟨b, 3, none⟩ _ k (fun e => hne (by rw [e]))).trans (G1.out.block k hk hne)⟩
      · rw [Int.toNat_natCast]
        have hc := Rd.cut2 pos (pos + n - pos) R1.out.rd (by omega) (by omega)
        have e2 : (zs.drop pos).take (pos + n - pos) = (zs.drop pos).take n := by rw [show pos + n - pos = n from by omega]
        rw [e2] at hc
        exact hc
      · rw [Int.toNat_natCast]
        exact R1.out.moved (pos + n) nq (by omega) _ (by go_num)
    · obtain ⟨t', x', rfl⟩ := c4.iface
      clear c4
      go_wp2
      go_ret
      exact ⟨_, rfl, G1.out, .inr ⟨fun h => (by cases h.1), rfl, R1.out⟩⟩
  · obtain ⟨a, cap, rfl⟩ : ∃ a cap, dv = .slice a zs.length cap := by obtain ⟨a, cap, h1, _⟩ := h.rd; exact ⟨a, cap, h1⟩
    have H := hide h
    clear h
    have HQ := hide (show decide ((n : Int) ≤ IntKind.i64.wrap ((zs.length : Int) - (pos : Int))) = false from by rw [IntKind.wrap_i64]; simp; omega)
    go_enter Tryz.func136, Tryz.ntmps136
    go_wp2
    go_region_held (fun w' => w'.cell? ⟨b, 2, none⟩ = some (.slice a zs.length cap) ∧ w'.cell? ⟨b, 3, none⟩ = some (.int .i64 pos)) (go_keep) ((go_at_call 86; refine (need_any b lo _ 21 ok (decide ((n : Int) ≤ IntKind.i64.wrap ((zs.length : Int) - (pos : Int)))) _ (H.out.ck.below ((Below.refl _ _).drew)) H.out.lo1 H.out.lo2).mono ?_; rintro e w1 ⟨rfl, hc1, ht1⟩; have hd1 := (ht1.2.1 2 (by omega)).trans hd; have ha1 := (ht1.2.1 3 (by omega)).trans ha))
    rw [HQ.out, Bool.and_false] at hc1
    have ht1' : Tch b w w1 := (Tch.of_below hlt ((Below.refl _ _).drew)).trans ht1
    have R1 := hide (H.out.tch hc1 ht1')
    have G1 := hide ht1'.1
    obtain ⟨c1, c2, ev, c3, c4⟩ := hc1
    clear ht1 ht1'
    rcases c4 with ⟨c4, _⟩ | ⟨_, m, c4⟩
    · cases c4
    · obtain ⟨t', x', rfl⟩ := c4.iface
      clear c4
      go_wp2
      go_ret
      exact ⟨_, rfl, G1.out, .inr ⟨fun h => (by omega), rfl, R1.out⟩⟩

end Go.Proofs.YtplieplmhdfndaaGreatDoor

namespace Go.Proofs.YtplieplmhdfndaaGreatDoor
open Go.RowKit

/-- The number that bytes are, the lowest first. -/
def unle : List Int → Nat
  | [] => 0
  | z :: zs => z.toNat + 256 * unle zs
theorem unle_snoc (zs : List Int) (z : Int) : unle (zs ++ [z]) = unle zs + z.toNat * 256 ^ zs.length := by
  induction zs with
  | nil => simp [unle]
  | cons y ys ih =>
    rw [List.cons_append, unle, ih, unle, List.length_cons, Nat.pow_succ]
    have : z.toNat * (256 ^ ys.length * 256) = 256 * (z.toNat * 256 ^ ys.length) := by rw [← Nat.mul_assoc, Nat.mul_comm]
    omega
theorem unle_lt (zs : List Int) (h : ∀ z ∈ zs, 0 ≤ z ∧ z < 256) : unle zs < 256 ^ zs.length := by
  induction zs with
  | nil => simp [unle]
  | cons y ys ih =>
    have h1 := h y (by simp)
    have h2 := ih (fun z hz => h z (by simp [hz]))
    rw [unle, List.length_cons, Nat.pow_succ]
    have : y.toNat < 256 := by omega
    have h3 : unle ys + 1 ≤ 256 ^ ys.length := h2
    have := Nat.mul_le_mul_left 256 h3
    omega
theorem unle_take (zs : List Int) (k : Nat) (h : k < zs.length) : unle (zs.take (k + 1)) = unle (zs.take k) + (zs.getD k 0).toNat * 256 ^ k := by
  rw [List.take_succ_eq_append_getElem h, unle_snoc, List.length_take, Nat.min_eq_left (by omega)]
  simp [List.getD, h]

theorem or_step (q c k : Nat) (hq : q < 256 ^ k) (hc : c < 256) (hk : k < 8) : bits .or .u64 (q : Int) (IntKind.u64.wrap (IntKind.u64.wrap (c : Int) * 2 ^ (8 * k))) = ((q + c * 256 ^ k : Nat) : Int) := by
  have hp : (256 : Nat) ^ k = 2 ^ (8 * k) := by rw [Nat.pow_mul]
  have hle : (256 : Nat) ^ (k + 1) ≤ 256 ^ 8 := Nat.pow_le_pow_right (by decide) (by omega)
  have hmul : c * 256 ^ k + 256 ^ k ≤ 256 ^ (k + 1) := by
    rw [Nat.pow_succ, Nat.mul_comm (256 ^ k)]
    have := Nat.mul_le_mul_right (256 ^ k) (show c + 1 ≤ 256 by omega)
    rw [Nat.add_mul, Nat.one_mul] at this
    exact this
  have h64 : (256 : Nat) ^ 8 = 18446744073709551616 := by decide
  have w1 : ∀ n : Nat, n < 18446744073709551616 → IntKind.u64.wrap (n : Int) = n := by
    intro n hn
    simp only [IntKind.wrap, IntKind.bits, IntKind.signed]
    simp
    omega
  rw [w1 c (by omega)]
  have e : (c : Int) * 2 ^ (8 * k) = ((c * 256 ^ k : Nat) : Int) := by rw [hp]; simp
  rw [e, w1 _ (by omega), u64_or_nat q (c * 256 ^ k) (by omega) (by omega), Nat.or_comm]
  rw [nat_join (8 * k) (c * 256 ^ k) q (by rw [hp, Nat.mul_mod_left]) (by rw [← hp]; exact hq), Nat.add_comm]
theorem or_step' (q c k : Nat) (hq : q < 256 ^ k) (hc : c < 256) (hk : k < 8) : bits .or .u64 (q : Int) (IntKind.u64.wrap ((c : Int) * 2 ^ (8 * k))) = ((q + c * 256 ^ k : Nat) : Int) := by
  have h := or_step q c k hq hc hk
  have w1 : IntKind.u64.wrap (c : Int) = c := by
    simp only [IntKind.wrap, IntKind.bits, IntKind.signed]
    simp
    omega
  rw [w1] at h
  exact h
/-- What number leaves, of m bytes: their number and a reader that much further; or 0 and a fault. -/
def Numd (w0 w w' : World) (b lo : Nat) (ok : Bool) (dv : Value) (zs : List Int) (pos m x : Nat) : Prop :=
  w.grownBy w' (some b) ∧ ((ok = true ∧ pos + m ≤ zs.length ∧ x = unle ((zs.drop pos).take m) ∧ Rdr w0 w' b lo true dv zs (pos + m)) ∨ (¬ (ok = true ∧ pos + m ≤ zs.length) ∧ x = 0 ∧ Rdr w0 w' b lo false dv zs pos))

set_option maxRecDepth 100000 in
set_option maxHeartbeats 1000000 in
theorem number32_any (w0 w : World) (b lo : Nat) (ok : Bool) (dv : Value) (zs : List Int) (pos : Nat) (h : Rdr w0 w b lo ok dv zs pos) (hz : zs.length ≤ 140737488355328) (hbd : ∀ z ∈ zs, 0 ≤ z ∧ z < 256) :
    Calls Tryz.prog 134 #[.pointer (some ⟨b, 0, none⟩)] w fun e w' => ∃ x : Nat, e = .returned (.int .i64 x) ∧ Numd w0 w w' b lo ok dv zs pos 4 x := by
  have H := hide h
  clear h
  go_enter Tryz.func134, Tryz.ntmps134
  go_wp2_with fail
  refine (width32 _).mono ?_
  rintro e w1 ⟨rfl, rfl⟩
  go_wp2_with fail
  refine (take_any w0 _ b lo ok dv zs pos 4 H.out (by omega) (by omega) hz).mono ?_
  rintro e w1 ⟨sv, rfl, hg, ht⟩
  rcases ht with ⟨hok, _, hle, hrd, hr⟩ | ⟨hno, rfl, hr⟩
  · have hlen : ((zs.drop pos).take ((4 : Nat) : Int).toNat).length = 4 := by simp; omega
    obtain ⟨bd, off, cap, rfl, hbw, _, _, hcell⟩ := (hr.lift hrd).partsC (by omega)
    have HB := hide (show ∀ z ∈ (zs.drop pos).take 4, 0 ≤ z ∧ z < 256 from fun z hz => hbd z (List.mem_of_mem_drop (List.mem_of_mem_take hz)))
    have HE := hide (show ∀ x, x = unle ((zs.drop pos).take 4) → Numd w0 w w1 b lo ok dv zs pos 4 x from
      fun x hx => ⟨hg, .inl ⟨hok, by omega, hx, hr⟩⟩)
    rw [hlen] at hcell ⊢
    rw [Int.toNat_natCast] at hcell hlen
    generalize (zs.drop pos).take 4 = ts at hcell HB hlen HE
    have HL := hide hlen
    clear hrd hr hg hok hlen
    go_wp2
    go_loop [3, 10] (fun v i => ∃ k q : Nat, k ≤ 4 ∧ i = .int .i64 k ∧ v = .int .u64 q ∧ q = unle (ts.take k)) (fun _ i => 4 - (intOf i).toNat)
    case atStart => exact ⟨0, 0, by omega, rfl, rfl, rfl⟩
    case round =>
      obtain ⟨k, q, hk, rfl, rfl, hq⟩ := hrel
      have HQ := hide hq
      clear hq
      by_cases hlt : k < 4
      · have c1 := hcell k hlt
        have hkl : k < ts.length := by rw [HL.out]; exact hlt
        have hz1 := HB.out (ts.getD k 0) (by simp [List.getD, hkl])
        have HT := hide (unle_take ts k hkl)
        have HQ2 := hide (show q < 256 ^ k from by
          have := unle_lt (ts.take k) (fun z hz => HB.out z (List.mem_of_mem_take hz))
          rw [← HQ.out, List.length_take, Nat.min_eq_left (by omega)] at this
          exact this)
        clear hcell hkl
        generalize ts.getD k 0 = z at c1 HT hz1
        obtain ⟨c, rfl⟩ := Int.eq_ofNat_of_zero_le hz1.1
        obtain ⟨_, hc2⟩ := hz1
        have hc : c < 256 := by omega
        clear hc2
        rw [Int.toNat_natCast] at HT
        have hor := or_step' q c k HQ2.out hc (by omega)
        generalize c * 256 ^ k = cc at hor HT
        go_wp2
        go_round
        case rel => exact ⟨k + 1, _, by omega, by go_num, rfl, by rw [HT.out, ← HQ.out]⟩
        case measure => simp [intOf]; omega
      · have hk4 : k = 4 := by omega
        subst hk4
        have HQ3 := hide (show q = unle ts ∧ q < 4294967296 from by
          have h1 := HQ.out
          rw [List.take_of_length_le (by rw [HL.out]; omega)] at h1
          refine ⟨h1, ?_⟩
          have h2 := unle_lt ts HB.out
          rw [HL.out, ← h1] at h2
          exact h2)
        have hql : q < 4294967296 := HQ3.out.2
        go_wp2
        go_ret
        exact ⟨q, rfl, HE.out q HQ3.out.1⟩
  · have HE := hide (show Numd w0 w w1 b lo ok dv zs pos 4 0 from
      ⟨hg, .inr ⟨fun h => hno ⟨h.1, by omega, by omega⟩, rfl, hr⟩⟩)
    clear hr hg hno
    go_wp2
    refine wp_loop_rounds 1 ?_
    rw [rounds_succ]
    go_wp2
    go_ret
    exact ⟨0, rfl, HE.out⟩

set_option maxRecDepth 100000 in
set_option maxHeartbeats 1000000 in
theorem number8_any (w0 w : World) (b lo : Nat) (ok : Bool) (dv : Value) (zs : List Int) (pos : Nat) (h : Rdr w0 w b lo ok dv zs pos) (hz : zs.length ≤ 140737488355328) (hbd : ∀ z ∈ zs, 0 ≤ z ∧ z < 256) :
    Calls Tryz.prog 135 #[.pointer (some ⟨b, 0, none⟩)] w fun e w' => ∃ x : Nat, e = .returned (.int .i64 x) ∧ Numd w0 w w' b lo ok dv zs pos 1 x := by
  have H := hide h
  clear h
  go_enter Tryz.func135, Tryz.ntmps135
  go_wp2_with fail
  refine (width8 _).mono ?_
  rintro e w1 ⟨rfl, rfl⟩
  go_wp2_with fail
  refine (take_any w0 _ b lo ok dv zs pos 1 H.out (by omega) (by omega) hz).mono ?_
  rintro e w1 ⟨sv, rfl, hg, ht⟩
  rcases ht with ⟨hok, _, hle, hrd, hr⟩ | ⟨hno, rfl, hr⟩
  · have hlen : ((zs.drop pos).take ((1 : Nat) : Int).toNat).length = 1 := by simp; omega
    obtain ⟨bd, off, cap, rfl, hbw, _, _, hcell⟩ := (hr.lift hrd).partsC (by omega)
    have HB := hide (show ∀ z ∈ (zs.drop pos).take 1, 0 ≤ z ∧ z < 256 from fun z hz => hbd z (List.mem_of_mem_drop (List.mem_of_mem_take hz)))
    have HE := hide (show ∀ x, x = unle ((zs.drop pos).take 1) → Numd w0 w w1 b lo ok dv zs pos 1 x from
      fun x hx => ⟨hg, .inl ⟨hok, by omega, hx, hr⟩⟩)
    rw [hlen] at hcell ⊢
    rw [Int.toNat_natCast] at hcell hlen
    generalize (zs.drop pos).take 1 = ts at hcell HB hlen HE
    have HL := hide hlen
    clear hrd hr hg hok hlen
    go_wp2
    go_loop [3, 10] (fun v i => ∃ k q : Nat, k ≤ 1 ∧ i = .int .i64 k ∧ v = .int .u64 q ∧ q = unle (ts.take k)) (fun _ i => 1 - (intOf i).toNat)
    case atStart => exact ⟨0, 0, by omega, rfl, rfl, rfl⟩
    case round =>
      obtain ⟨k, q, hk, rfl, rfl, hq⟩ := hrel
      have HQ := hide hq
      clear hq
      by_cases hlt : k < 1
      · have c1 := hcell k hlt
        have hkl : k < ts.length := by rw [HL.out]; exact hlt
        have hz1 := HB.out (ts.getD k 0) (by simp [List.getD, hkl])
        have HT := hide (unle_take ts k hkl)
        have HQ2 := hide (show q < 256 ^ k from by
          have := unle_lt (ts.take k) (fun z hz => HB.out z (List.mem_of_mem_take hz))
          rw [← HQ.out, List.length_take, Nat.min_eq_left (by omega)] at this
          exact this)
        clear hcell hkl
        generalize ts.getD k 0 = z at c1 HT hz1
        obtain ⟨c, rfl⟩ := Int.eq_ofNat_of_zero_le hz1.1
        obtain ⟨_, hc2⟩ := hz1
        have hc : c < 256 := by omega
        clear hc2
        rw [Int.toNat_natCast] at HT
        have hor := or_step' q c k HQ2.out hc (by omega)
        generalize c * 256 ^ k = cc at hor HT
        go_wp2
        go_round
        case rel => exact ⟨k + 1, _, by omega, by go_num, rfl, by rw [HT.out, ← HQ.out]⟩
        case measure => simp [intOf]; omega
      · have hk4 : k = 1 := by omega
        subst hk4
        have HQ3 := hide (show q = unle ts ∧ q < 256 from by
          have h1 := HQ.out
          rw [List.take_of_length_le (by rw [HL.out]; omega)] at h1
          refine ⟨h1, ?_⟩
          have h2 := unle_lt ts HB.out
          rw [HL.out, ← h1] at h2
          exact h2)
        have hql : q < 256 := HQ3.out.2
        go_wp2
        go_ret
        exact ⟨q, rfl, HE.out q HQ3.out.1⟩
  · have HE := hide (show Numd w0 w w1 b lo ok dv zs pos 1 0 from
      ⟨hg, .inr ⟨fun h => hno ⟨h.1, by omega, by omega⟩, rfl, hr⟩⟩)
    clear hr hg hno
    go_wp2
    refine wp_loop_rounds 1 ?_
    rw [rounds_succ]
    go_wp2
    go_ret
    exact ⟨0, rfl, HE.out⟩

end Go.Proofs.YtplieplmhdfndaaGreatDoor

namespace Go.Proofs.YtplieplmhdfndaaGreatDoor
set_option linter.unnecessarySimpa false
open Go.RowKit

set_option maxRecDepth 100000 in
set_option maxHeartbeats 1000000 in
theorem take_zero (w0 w : World) (b lo : Nat) (ok : Bool) (dv : Value) (zs : List Int) (pos : Nat) (h : Rdr w0 w b lo ok dv zs pos) (hp : 0 < pos) (hz : zs.length ≤ 140737488355328) :
    Calls Tryz.prog 136 #[.pointer (some ⟨b, 0, none⟩), .int .i64 0] w fun e w' => ∃ sv, e = .returned sv ∧ Took w0 w w' b lo ok dv zs pos 0 sv := by
  have hd := h.data
  have ha := h.at_
  have hl := h.le
  have hlt := h.ck.lt
  obtain ⟨bd, off, cap, rfl, hbd, hcl, hcm, hcell⟩ := h.read.partsC (by omega)
  have HP := hide (And.intro hcell hbd)
  have H := hide h
  unfold maxLen at hcm
  clear h hcell
  have HQ := hide (show decide ((0 : Int) ≤ IntKind.i64.wrap ((zs.length : Int) - (pos : Int))) = true from by rw [IntKind.wrap_i64]; simp; omega)
  go_enter Tryz.func136, Tryz.ntmps136
  go_wp2
  go_region_held (fun w' => w'.cell? ⟨b, 2, none⟩ = some (.slice (some ⟨bd, off, none⟩) zs.length cap) ∧ w'.cell? ⟨b, 3, none⟩ = some (.int .i64 pos)) (go_keep) ((go_at_call 86; refine (need_any b lo _ 21 ok (decide ((0 : Int) ≤ IntKind.i64.wrap ((zs.length : Int) - (pos : Int)))) _ (H.out.ck.below ((Below.refl _ _).drew)) H.out.lo1 H.out.lo2).mono ?_; rintro e w1 ⟨rfl, hc1, ht1⟩; have hd1 := (ht1.2.1 2 (by omega)).trans hd; have ha1 := (ht1.2.1 3 (by omega)).trans ha))
  rw [HQ.out, Bool.and_true] at hc1
  have ht1' : Tch b w w1 := (Tch.of_below hlt ((Below.refl _ _).drew)).trans ht1
  have R1 := hide (H.out.tch hc1 ht1')
  have G1 := hide ht1'.1
  have hf1 := R1.out.fr
  obtain ⟨c1, c2, ev, c3, c4⟩ := hc1
  clear ht1 ht1'
  rcases c4 with ⟨rfl, rfl⟩ | ⟨rfl, m, c4⟩
  · have k2 : (w1.setCell ⟨b, 3, none⟩ (.int .i64 (pos : Int))).cell? ⟨b, 2, none⟩ = some (.slice (some ⟨bd, off, none⟩) zs.length cap) := by
      rw [World.cell?_setCell_other _ _ _ _ (by intro e; injection e with e1 e2; omega)]; exact hd1
    have k3 : (w1.setCell ⟨b, 3, none⟩ (.int .i64 (pos : Int))).cell? ⟨b, 3, none⟩ = some (.int .i64 (pos : Int)) := World.cell?_setCell_same _ _ _ ha1
    go_wp2
    go_quiet (fail)
    go_wp2
    all_goals
      go_ret
      refine ⟨_, rfl, ?_, .inl ⟨rfl, by omega, by omega, ?_, ?_⟩⟩
      · exact ⟨G1.out.os, G1.out.tape, G1.out.output, by simpa using G1.out.size, fun k hk hne => (Below.heap_setCell w1 ⟨b, 3, none⟩ _ k (fun e => hne (by rw [e]))).trans (G1.out.block k hk hne)⟩
      · exact ⟨_, _, rfl, by simp, fun h => absurd (by simp) h, by simp, by unfold maxLen; omega⟩
      · have hm := R1.out.moved pos nq (by omega) (.int .i64 (pos : Int)) rfl
        first | exact hm | (simp [*]; done) | simpa [*] using hm
  · obtain ⟨t', x', rfl⟩ := c4.iface
    clear c4
    go_wp2
    go_ret
    exact ⟨_, rfl, G1.out, .inr ⟨fun h => (by cases h.1), rfl, R1.out⟩⟩

theorem take_nn (w0 w : World) (b lo : Nat) (ok : Bool) (dv : Value) (zs : List Int) (pos n : Nat) (x : Int) (hx : x = n) (h : Rdr w0 w b lo ok dv zs pos) (hn0 : 0 < n ∨ 0 < pos) (hn : n ≤ 4294967296) (hz : zs.length ≤ 140737488355328) :
    Calls Tryz.prog 136 #[.pointer (some ⟨b, 0, none⟩), .int .i64 x] w fun e w' => ∃ sv, e = .returned sv ∧ Took w0 w w' b lo ok dv zs pos n sv := by
  subst hx
  by_cases h0 : 0 < n
  · exact take_any w0 w b lo ok dv zs pos n h h0 hn hz
  · have e0 : n = 0 := by omega
    subst e0
    exact take_zero w0 w b lo ok dv zs pos h (by omega) hz

/-- What zeros leaves: a reader at the place told, with a fault where a byte up to there isn't 0; or a fault at once. -/
def Zd (w0 w w' : World) (b lo : Nat) (ok : Bool) (dv : Value) (zs : List Int) (pos at_ : Nat) : Prop :=
  w.grownBy w' (some b) ∧ ((ok = true ∧ at_ ≤ zs.length ∧ Rdr w0 w' b lo (((zs.drop pos).take (at_ - pos)).all (fun z => decide (z = 0))) dv zs at_) ∨ (¬ (ok = true ∧ at_ ≤ zs.length) ∧ Rdr w0 w' b lo false dv zs pos))

theorem all_take0 (ts : List Int) (k : Nat) (h : k < ts.length) : (ts.take (k + 1)).all (fun z => decide (z = 0)) = ((ts.take k).all (fun z => decide (z = 0)) && decide (ts.getD k 0 = 0)) := by
  rw [List.take_succ_eq_append_getElem h, List.all_append]
  simp [List.getD, h]

set_option maxRecDepth 100000 in
set_option maxHeartbeats 1000000 in
theorem zeros_any (w0 w : World) (b lo : Nat) (ok : Bool) (dv : Value) (zs : List Int) (pos at_ : Nat) (h : Rdr w0 w b lo ok dv zs pos) (hp : pos ≤ at_) (hn0 : 0 < at_) (hn : at_ ≤ 4294967296) (hz : zs.length ≤ 140737488355328) :
    Calls Tryz.prog 176 #[.pointer (some ⟨b, 0, none⟩), .int .i64 at_] w fun e w' => e = .returned (.tuple #[]) ∧ Zd w0 w w' b lo ok dv zs pos at_ := by
  have ha := h.at_
  have H := hide h
  clear h
  go_enter Tryz.func176, Tryz.ntmps176
  go_wp2_with fail
  refine (take_nn w0 _ b lo ok dv zs pos (at_ - pos) _ (by go_num) H.out (by omega) (by omega) hz).mono ?_
  rintro e w1 ⟨sv, rfl, hg, ht⟩
  rcases ht with ⟨hok, _, hle, hrd, hr⟩ | ⟨hno, rfl, hr⟩
  · rw [Int.toNat_natCast] at hrd hr
    rw [show pos + (at_ - pos) = at_ from by omega] at hr
    have hlen : ((zs.drop pos).take (at_ - pos)).length = at_ - pos := by simp; omega
    have HE := hide (show ∀ w2, w1.grownBy w2 (some b) → Rdr w0 w2 b lo (((zs.drop pos).take (at_ - pos)).all (fun z => decide (z = 0))) dv zs at_ → Zd w0 w w2 b lo ok dv zs pos at_ from
      fun w2 g2 r2 => ⟨grownBy_trans hg g2, .inl ⟨hok, by omega, r2⟩⟩)
    generalize (zs.drop pos).take (at_ - pos) = ts at hrd hlen HE
    generalize at_ - pos = m at hlen
    have HR := hide hr
    clear hg hok hle ha H hp hn0 hn
    subst hlen
    obtain ⟨a, cap, rfl, hm, hc, _⟩ := hrd
    have HC := hide hc
    clear hc
    unfold maxLen at hm
    clear hr
    go_wp2
    go_loopw [5, 15] (fun _ i wr => ∃ k : Nat, k ≤ ts.length ∧ i = .int .i64 k ∧ w1.grownBy wr (some b) ∧ Rdr w0 wr b lo ((ts.take k).all (fun z => decide (z = 0))) dv zs at_) (fun _ i _ => ts.length - (intOf i).toNat)
    case atStart => exact ⟨0, by omega, rfl, World.grownBy.refl _ _, HR.out⟩
    case round =>
      obtain ⟨k, hk, rfl, hgr, hrr⟩ := hrel
      have HK := hide (And.intro hgr hrr)
      clear hgr hrr HR
      by_cases hlt : k < ts.length
      · obtain ⟨bd, off, rfl, hbd, hcell⟩ := HC.out (fun e => by rw [e] at hlt; simp at hlt)
        have c1 : wr.cell? ⟨bd, off + k, none⟩ = some (.int .u8 (ts.getD k 0)) := (HK.out.2.old.cell (p := ⟨bd, off + k, none⟩) (by rw [← HK.out.2.size]; exact hbd)).trans (hcell k hlt)
        have HT := hide (all_take0 ts k hlt)
        clear hcell HC hbd
        generalize ts.getD k 0 = z at c1 HT
        go_wp2_with (go_at_call 86; fail)
        refine (need_any b lo _ 21 _ _ _ HK.out.2.ck HK.out.2.lo1 HK.out.2.lo2).mono ?_
        rintro e w2 ⟨rfl, hc2, ht2⟩
        have HW := hide (show w1.grownBy w2 (some b) ∧ Rdr w0 w2 b lo ((ts.take (k + 1)).all (fun z => decide (z = 0))) dv zs at_ from by
          rw [HT.out]
          exact ⟨grownBy_trans HK.out.1 ht2.1, HK.out.2.tch hc2 ht2⟩)
        clear hc2 ht2 c1
        go_wp2
        go_roundw
        case rel => exact ⟨k + 1, by omega, by go_num, HW.out.1, HW.out.2⟩
        case measure => simp [intOf]; omega
      · have ek : k = ts.length := by omega
        subst ek
        have HF := hide (HE.out wr HK.out.1 (by have h2 := HK.out.2; rw [List.take_of_length_le (Nat.le_refl _)] at h2; exact h2))
        clear hlt
        go_wp2
        go_end0
        exact ⟨rfl, HF.out⟩
  · have HE := hide (show Zd w0 w w1 b lo ok dv zs pos at_ from ⟨hg, .inr ⟨fun h => hno ⟨h.1, by omega, by omega⟩, hr⟩⟩)
    clear hr hg hno ha H
    go_wp2
    refine wp_loop_rounds 1 ?_
    rw [rounds_succ]
    go_wp2
    go_end0
    exact ⟨rfl, HE.out⟩

/-- What end leaves: no fault where none was, the bytes up to the place told are 0 and nothing lies behind it. -/
def Ed (w0 w w' : World) (b lo : Nat) (ok : Bool) (dv : Value) (zs : List Int) (pos at_ : Nat) : Prop :=
  w.grownBy w' (some b) ∧ ∃ p, Rdr w0 w' b lo (ok && (((zs.drop pos).take (at_ - pos)).all (fun z => decide (z = 0)) && decide (zs.length = at_))) dv zs p

set_option maxRecDepth 100000 in
set_option maxHeartbeats 1000000 in
theorem end_any (w0 w : World) (b lo : Nat) (ok : Bool) (dv : Value) (zs : List Int) (pos at_ : Nat) (h : Rdr w0 w b lo ok dv zs pos) (hp : pos ≤ at_) (hn0 : 0 < at_) (hn : at_ ≤ 4294967296) (hz : zs.length ≤ 140737488355328) :
    Calls Tryz.prog 137 #[.pointer (some ⟨b, 0, none⟩), .int .i64 at_] w fun e w' => e = .returned (.tuple #[]) ∧ Ed w0 w w' b lo ok dv zs pos at_ := by
  have H := hide h
  obtain ⟨a, cap, rfl⟩ : ∃ a cap, dv = .slice a zs.length cap := by obtain ⟨a, cap, h1, _⟩ := h.rd; exact ⟨a, cap, h1⟩
  clear h
  go_enter Tryz.func137, Tryz.ntmps137
  go_wp2_with fail
  refine (zeros_any w0 _ b lo ok _ zs pos at_ H.out hp hn0 hn hz).mono ?_
  rintro e w1 ⟨rfl, hg, hzd⟩
  obtain ⟨ok1, p1, hr, HE⟩ : ∃ ok1 p1, Rdr w0 w1 b lo ok1 (.slice a zs.length cap) zs p1 ∧ Hid ((ok1 && decide ((p1 : Int) = (zs.length : Int))) = (ok && (((zs.drop pos).take (at_ - pos)).all (fun z => decide (z = 0)) && decide (zs.length = at_)))) := by
    rcases hzd with ⟨rfl, hle, hr⟩ | ⟨hno, hr⟩
    · refine ⟨_, _, hr, ?_⟩
      show _ = _
      rw [Bool.true_and]
      congr 1
      rw [decide_eq_decide]
      omega
    · refine ⟨_, _, hr, ?_⟩
      show _ = _
      rw [Bool.false_and]
      cases ok with
      | false => rfl
      | true =>
        have : ¬ zs.length = at_ := fun e => hno ⟨rfl, by omega⟩
        simp [this]
  have HR := hide hr
  have HG := hide hg
  have hd1 := hr.data
  have ha1 := hr.at_
  have hlt1 := hr.ck.lt
  clear hr hg hzd H
  go_wp2
  go_region_held (fun w' => w'.cell? ⟨b, 2, none⟩ = some (.slice a zs.length cap) ∧ w'.cell? ⟨b, 3, none⟩ = some (.int .i64 p1)) (go_keep) ((go_at_call 86; refine (need_any b lo _ 21 ok1 _ _ (HR.out.ck.below ((Below.refl _ _).drew)) HR.out.lo1 HR.out.lo2).mono ?_; rintro e w2 ⟨rfl, hc2, ht2⟩; have hd2 := (ht2.2.1 2 (by omega)).trans hd1; have ha2 := (ht2.2.1 3 (by omega)).trans ha1))
  have ht2' : Tch b w1 w2 := (Tch.of_below hlt1 ((Below.refl _ _).drew)).trans ht2
  have HW := hide (show Ed w0 w w2 b lo ok (.slice a zs.length cap) zs pos at_ from by
    refine ⟨grownBy_trans HG.out ht2'.1, p1, ?_⟩
    rw [← HE]
    exact HR.out.tch hc2 ht2')
  clear hc2 ht2 ht2' hd2 ha2
  go_wp2
  go_end0
  exact ⟨rfl, HW.out⟩
end Go.Proofs.YtplieplmhdfndaaGreatDoor
