/- The program's first fault that sticks: need, within, inside, at a check that lies at the head of block b. The laws' own helpers over []byte: a copy, two held against each other. The laws' own marks on []byte: laid into what is owned, and found again. A number laid down at the end of bytes that are owned and have room: lay at its four widths. -/
import Derived.Test.YtplieplmhdfndaaGreatDoorZg02
import Derived.Test.YtplieplmhdfndaaGreatDoorRows
import Derived.Test.YtplieplmhdfndaaGreatDoorZg01
import Derived.WalkLawsBesides
import Derived.Deep.QuietTactic
import Derived.BigQuiet
import Derived.WalkSpells
namespace Go.Proofs.YtplieplmhdfndaaGreatDoor
open Go.RowKit

/-- A check at the head of block b: its code, and no fault yet (ok), or a chain of faults with that code, from block lo on. -/
def Ck (w : World) (b lo : Nat) (code : Int) (ok : Bool) : Prop :=
  w.cell? ⟨b, 0, none⟩ = some (.int .i64 code) ∧ w.frozen? ⟨b, 1, none⟩ = false ∧ ∃ ev, w.cell? ⟨b, 1, none⟩ = some ev ∧ ((ok = true ∧ ev = .nilIface) ∨ (ok = false ∧ ∃ n, Flt w lo n ev code))
/-- Of what was there only the second cell of block b may have turned. -/
def Tch (b : Nat) (w w' : World) : Prop :=
  w.grownBy w' (some b) ∧ (∀ o, o ≠ 1 → w'.cell? ⟨b, o, none⟩ = w.cell? ⟨b, o, none⟩) ∧ ∀ o, w'.frozen? ⟨b, o, none⟩ = w.frozen? ⟨b, o, none⟩
theorem Tch.refl (b : Nat) (w : World) : Tch b w w := ⟨World.grownBy.refl _ _, fun _ _ => rfl, fun _ => rfl⟩
theorem Tch.trans {b : Nat} {w w1 w2 : World} (h1 : Tch b w w1) (h2 : Tch b w1 w2) : Tch b w w2 :=
  ⟨grownBy_trans h1.1 h2.1, fun o ho => (h2.2.1 o ho).trans (h1.2.1 o ho), fun o => (h2.2.2 o).trans (h1.2.2 o)⟩
theorem Tch.of_below {b : Nat} {w w' : World} (hlt : b < w.heap.size) (h : Below w.heap.size w w') : Tch b w w' :=
  ⟨⟨h.os, h.tape, h.output, h.size, fun k hk _ => h.block k hk⟩, fun o _ => h.cell (p := ⟨b, o, none⟩) hlt, fun o => h.frozen (p := ⟨b, o, none⟩) hlt⟩
theorem Tch.under {b B : Nat} {w0 w w' : World} (h : Tch b w w') (h0 : Below B w0 w) (hB : B ≤ b) (hs : B ≤ w.heap.size) : Below B w0 w' :=
  h0.grown h.1 hs (fun k e => by cases e; exact hB)
theorem Ck.lt {w : World} {b lo : Nat} {code : Int} {ok : Bool} (h : Ck w b lo code ok) : b < w.heap.size := cell_lt h.1
theorem Ck.below {w w' : World} {b lo : Nat} {code : Int} {ok : Bool} (h : Ck w b lo code ok) (hb : Below w.heap.size w w') : Ck w' b lo code ok := by
  obtain ⟨h1, h2, ev, h3, h4⟩ := h
  have hlt : b < w.heap.size := cell_lt h1
  refine ⟨(hb.cell (p := ⟨b, 0, none⟩) hlt).trans h1, (hb.frozen (p := ⟨b, 1, none⟩) hlt).trans h2, ev, (hb.cell (p := ⟨b, 1, none⟩) hlt).trans h3, ?_⟩
  rcases h4 with h4 | ⟨h4, n, h5⟩
  · exact .inl h4
  · exact .inr ⟨h4, n, h5.below hb⟩
/-- Kept behind what turns neither the check's block nor one from lo on. -/
theorem Ck.keep {w w' : World} {b lo : Nat} {code : Int} {ok : Bool} (h : Ck w b lo code ok) (hb : w'.heap[b]? = w.heap[b]?) (hk : ∀ k, k < w.heap.size → lo ≤ k → w'.heap[k]? = w.heap[k]?) : Ck w' b lo code ok := by
  obtain ⟨h1, h2, ev, h3, h4⟩ := h
  refine ⟨(World.cell?_of_block (a := ⟨b, 0, none⟩) hb).trans h1, (World.frozen?_of_block (a := ⟨b, 1, none⟩) hb).trans h2, ev, (World.cell?_of_block (a := ⟨b, 1, none⟩) hb).trans h3, ?_⟩
  rcases h4 with h4 | ⟨h4, n, h5⟩
  · exact .inl h4
  · exact .inr ⟨h4, n, h5.keep fun k o v hl hc => (World.cell?_of_block (a := ⟨k, o, none⟩) (hk k (cell_lt hc) hl)).trans hc⟩
/-- Kept behind writes to one row that is neither the check's nor one from lo on. -/
theorem Ck.grown {w w' : World} {b lo g : Nat} {code : Int} {ok : Bool} (h : Ck w b lo code ok) (hg : w.grownBy w' (some g)) (hne : b ≠ g) (hl : g < lo) : Ck w' b lo code ok :=
  h.keep (hg.block b h.lt (by simp; omega)) (fun k hk hlo => hg.block k hk (by simp; omega))
theorem Ck.relo {w : World} {b lo lo' : Nat} {code : Int} (h : Ck w b lo code true) : Ck w b lo' code true := by
  obtain ⟨h1, h2, ev, h3, h4⟩ := h
  rcases h4 with h4 | ⟨h4, _⟩
  · exact ⟨h1, h2, ev, h3, .inl h4⟩
  · cases h4
theorem Ck.fresh (w : World) (code : Int) (t : TypeId) : Ck (w.alloc (.cells #[.int .i64 code, .nilIface] t)) w.heap.size (w.heap.size + 1) code true :=
  ⟨by simp, by simp, .nilIface, by simp, .inl ⟨rfl, rfl⟩⟩

theorem inside_nil (b lo : Nat) (place : ByteArray) (code : Int) (ok : Bool) (w : World) (h : Ck w b lo code ok) :
    Calls Tryz.prog 61 #[.pointer (some ⟨b, 0, none⟩), .string place, .nilIface] w fun e w' => e = .returned (.tuple #[]) ∧ w' = w := by
  obtain ⟨h1, h2, ev, h3, h4⟩ := h
  rcases h4 with ⟨rfl, rfl⟩ | ⟨rfl, n, h5⟩
  · go_enter Tryz.func61, Tryz.ntmps61
    go_wp2
    go_end0
    exact ⟨rfl, rfl⟩
  · obtain ⟨t', x', rfl⟩ := h5.iface
    clear h5
    go_enter Tryz.func61, Tryz.ntmps61
    go_wp2
    go_end0
    exact ⟨rfl, rfl⟩

theorem inside_any (b lo : Nat) (place : ByteArray) (code : Int) (ok : Bool) (n : Nat) (v : Value) (w : World) (h : Ck w b lo code ok) (hv : Flt w lo n v code) (hlo : b < lo) (hsz : lo ≤ w.heap.size) :
    Calls Tryz.prog 61 #[.pointer (some ⟨b, 0, none⟩), .string place, v] w fun e w' => e = .returned (.tuple #[]) ∧ Ck w' b lo code false ∧ Tch b w w' := by
  have hlt := h.lt
  obtain ⟨h1, h2, ev, h3, h4⟩ := h
  rcases h4 with ⟨rfl, rfl⟩ | ⟨rfl, m, h5⟩
  · have HW : Hid (∀ w', w' = (w.setCell ⟨b, 1, none⟩ (.iface 168 (.pointer (some ⟨w.heap.size, 0, none⟩)))).alloc (.cells #[.string place, v] 170) → Ck w' b lo code false ∧ Tch b w w') := by
      rintro w' rfl
      have hnb : (⟨b, 1, none⟩ : Addr).block ≠ w.heap.size := by show b ≠ _; omega
      have hk : ∀ k o u, lo ≤ k → w.cell? ⟨k, o, none⟩ = some u → ((w.setCell ⟨b, 1, none⟩ (.iface 168 (.pointer (some ⟨w.heap.size, 0, none⟩)))).alloc (.cells #[.string place, v] 170)).cell? ⟨k, o, none⟩ = some u := by
        intro k o u hk hc
        have := cell_lt hc
        rw [World.cell?_alloc_lt _ _ ⟨k, o, none⟩ (by simpa using this), World.cell?_setCell_other _ _ _ _ (by intro e; injection e with e1; omega)]
        exact hc
      refine ⟨⟨?_, ?_, _, ?_, .inr ⟨rfl, n + 1, ⟨w.heap.size, v, rfl, hsz, ?_, hv.keep hk⟩⟩⟩, ⟨⟨rfl, rfl, rfl, by simp, fun k hk hn => ?_⟩, fun o ho => ?_, fun o => ?_⟩⟩
      · rw [World.cell?_alloc_lt _ _ ⟨b, 0, none⟩ (by simpa using hlt), World.cell?_setCell_other _ _ _ _ (by intro e; injection e with e1 e2; omega)]; exact h1
      · rw [World.frozen?_alloc_old _ _ ⟨b, 1, none⟩ (by simpa using hnb)]; simpa using h2
      · rw [World.cell?_alloc_lt _ _ ⟨b, 1, none⟩ (by simpa using hlt)]; exact World.cell?_setCell_same _ _ _ h3
      · rw [World.cell?_alloc_at _ _ _ _ (by simp)]; rfl
      · rw [Below.heap_alloc _ _ k (by simpa using hk)]
        exact Below.heap_setCell w _ _ k (fun h => hn (by rw [h]))
      · rw [World.cell?_alloc_lt _ _ ⟨b, o, none⟩ (by simpa using hlt), World.cell?_setCell_other _ _ _ _ (by intro e; injection e with e1 e2; omega)]
      · rw [World.frozen?_alloc_old _ _ ⟨b, o, none⟩ (by simpa using hnb)]; simp
    obtain ⟨t', x', rfl⟩ := hv.iface
    clear hv
    go_enter Tryz.func61, Tryz.ntmps61
    go_wp2
    go_end0
    exact ⟨rfl, HW.out _ rfl⟩
  · obtain ⟨t', x', rfl⟩ := h5.iface
    have HK : Hid (Ck w b lo code false) := ⟨h1, h2, _, h3, .inr ⟨rfl, m, h5⟩⟩
    obtain ⟨t2, x2, rfl⟩ := hv.iface
    clear h5 hv
    go_enter Tryz.func61, Tryz.ntmps61
    go_wp2
    go_end0
    exact ⟨rfl, HK.out, Tch.refl _ _⟩

theorem need_any (b lo : Nat) (place : ByteArray) (code : Int) (ok hd : Bool) (w : World) (h : Ck w b lo code ok) (hlo : b < lo) (hsz : lo ≤ w.heap.size) :
    Calls Tryz.prog 86 #[.pointer (some ⟨b, 0, none⟩), .string place, .bool hd] w fun e w' => e = .returned (.tuple #[]) ∧ Ck w' b lo code (ok && hd) ∧ Tch b w w' := by
  cases hd with
  | true =>
    have HK : Hid (Ck w b lo code (ok && true)) := by show Ck w b lo code (ok && true); simpa using h
    clear h
    go_enter Tryz.func86, Tryz.ntmps86
    go_wp2
    go_end0
    exact ⟨rfl, HK.out, Tch.refl _ _⟩
  | false =>
    have hlt := h.lt
    have hb0 : Below w.heap.size w (w.alloc (.cells #[.int .i64 code] 137)) := (Below.refl _ _).alloc (Nat.le_refl _) _
    have HK : Hid (Ck (w.alloc (.cells #[.int .i64 code] 137)) b lo code ok ∧ Flt (w.alloc (.cells #[.int .i64 code] 137)) lo 0 (.iface 133 (.pointer (some ⟨w.heap.size, 0, none⟩))) code) :=
      ⟨h.below hb0, w.heap.size, rfl, hsz, by simp⟩
    have h1 := h.1
    clear h
    go_enter Tryz.func86, Tryz.ntmps86
    go_wp2_with (go_at_call 61; refine (inside_any b lo place code ok 0 _ _ HK.out.1 HK.out.2 hlo (by simp; omega)).mono ?_; rintro e w' ⟨rfl, r1, r2⟩)
    go_end0
    refine ⟨rfl, by simpa using r1, (Tch.of_below hlt hb0).trans r2⟩

theorem within_any (b bl : Nat) (place : ByteArray) (code n lo hi : Int) (ok : Bool) (w : World) (h : Ck w b bl code ok) (hlo : b < bl) (hsz : bl ≤ w.heap.size) :
    Calls Tryz.prog 95 #[.pointer (some ⟨b, 0, none⟩), .string place, .int .i64 n, .int .i64 lo, .int .i64 hi] w fun e w' => e = .returned (.tuple #[]) ∧ Ck w' b bl code (ok && (decide (lo ≤ n) && decide (n ≤ hi))) ∧ Tch b w w' := by
  have HK : Hid (Ck w b bl code ok) := h
  clear h
  by_cases h1 : lo ≤ n <;> by_cases h2 : n ≤ hi
  all_goals
    go_enter Tryz.func95, Tryz.ntmps95
    go_wp2_with (go_at_call 86; refine (need_any b bl place code ok _ _ HK.out hlo hsz).mono ?_; rintro e w' ⟨rfl, r1, r2⟩)
    go_end0
    refine ⟨rfl, ?_, r2⟩
    first
    | (rw [show (decide (lo ≤ n) && decide (n ≤ hi)) = true by rw [Bool.and_eq_true]; simp; omega]; exact r1)
    | (rw [show (decide (lo ≤ n) && decide (n ≤ hi)) = false by rw [Bool.and_eq_false_iff]; simp; omega]; exact r1)

/-- What a look answers: nothing wrong, or a chain of faults. -/
def FaultIs (w : World) (lo : Nat) (ok : Bool) (ev : Value) (code : Int) : Prop := (ok = true ∧ ev = .nilIface) ∨ (ok = false ∧ ∃ m, Flt w lo m ev code)
theorem FaultIs.mono {w : World} {lo lo' : Nat} {ok : Bool} {ev : Value} {code : Int} (h : FaultIs w lo ok ev code) (hl : lo' ≤ lo) : FaultIs w lo' ok ev code := by
  rcases h with h | ⟨h, m, h2⟩
  · exact .inl h
  · exact .inr ⟨h, m, h2.mono hl⟩
theorem inside_both (b lo : Nat) (place : ByteArray) (code : Int) (ok ok1 : Bool) (ev : Value) (w : World) (h : Ck w b lo code ok) (hf : FaultIs w lo ok1 ev code) (hlo : b < lo) (hsz : lo ≤ w.heap.size) :
    Calls Tryz.prog 61 #[.pointer (some ⟨b, 0, none⟩), .string place, ev] w fun e w' => e = .returned (.tuple #[]) ∧ Ck w' b lo code (ok && ok1) ∧ Tch b w w' := by
  rcases hf with ⟨rfl, rfl⟩ | ⟨rfl, m, hm⟩
  · refine (inside_nil b lo place code ok w h).mono ?_
    rintro e w' ⟨rfl, rfl⟩
    exact ⟨rfl, by rw [Bool.and_true]; exact h, Tch.refl _ _⟩
  · refine (inside_any b lo place code ok m ev w h hm hlo hsz).mono ?_
    rintro e w' ⟨rfl, h1, h2⟩
    exact ⟨rfl, by rw [Bool.and_false]; exact h1, h2⟩

theorem FaultIs.below {w w' : World} {lo : Nat} {ok : Bool} {ev : Value} {code : Int} (h : FaultIs w lo ok ev code) (hb : Below w.heap.size w w') : FaultIs w' lo ok ev code := by
  rcases h with h | ⟨h, m, h2⟩
  · exact .inl h
  · exact .inr ⟨h, m, h2.below hb⟩
theorem Ck.fault {w : World} {b lo : Nat} {code : Int} {ok : Bool} (h : Ck w b lo code ok) : ∃ ev, w.cell? ⟨b, 1, none⟩ = some ev ∧ FaultIs w lo ok ev code := by
  obtain ⟨_, _, ev, c3, c4⟩ := h
  exact ⟨ev, c3, c4⟩
end Go.Proofs.YtplieplmhdfndaaGreatDoor

namespace Go.Proofs.YtplieplmhdfndaaGreatDoor
open Go.RowKit

theorem infoU8 : (Tryz.prog.info? 5).map (fun i => (i.zero, i.size, i.bytes)) = some (some (.int .u8 0), 1, 1) := by kernel_rfl

set_option maxHeartbeats 400000 in
theorem toByteS_any (v : Value) (zs : List Int) (w : World) (h : Rd .u8 w v zs) (hn : zs.length ≤ 140737488355328) :
    Calls Tryz.prog 94 #[v] w fun e w' => ∃ v', e = .returned v' ∧ w'.ownsRow w.heap.size 5 1 v' zs.length (zs.map (Value.int .u8)) ∧ Below w.heap.size w w' := by
  obtain ⟨i0, hi, hz0, hz1, hz2⟩ := info_parts infoU8
  have hm := h.len
  have hnm : zs.length ≤ 9223372036854775807 := by omega
  rcases h.parts with ⟨a, cap, rfl, hlow⟩ | ⟨b, off, cap, rfl, hbw, hcell⟩
  all_goals
    clear h
    go_enter Tryz.func94, Tryz.ntmps94
    go_wp2_with (refine wpList_make_full _ rfl (.tmp 6) (.tmp 6) 45 rfl w.heap.size 5 i0 (.int .u8 0) 1 Tryz.underlying45 hi hz0 hz1 .i64 .i64 zs.length zs.length zs.length rfl rfl rfl rfl (by rw [hz2]; omega) hm (Nat.le_refl _) ?_; intro w1 hown hgrow; rw [made_one _ _ rfl] at hown)
    have hb1 : Below w.heap.size w w1 := (Below.refl _ _).grown hgrow (Nat.le_refl _) (fun k h => by cases h)
    clear hgrow
    go_loopw [4] (fun i wr => ∃ k : Nat, k ≤ zs.length ∧ i = .int .i64 k ∧ wr.ownsRow w.heap.size 5 1 (.slice (some ⟨w.heap.size, 0, none⟩) zs.length zs.length) zs.length ((zs.map (Value.int .u8)).take k ++ List.replicate (zs.length - k) (.int .u8 0)) ∧ Below w.heap.size w wr) (fun i _ => zs.length - (intOf i).toNat)
    case atStart => exact ⟨0, Nat.zero_le _, rfl, by simpa using hown, hb1⟩
    case round =>
      clear hown hb1
      obtain ⟨k, hk, rfl, hown, hb1⟩ := hrel
      by_cases hlt : k < zs.length
      · first
        | omega
        | (have hcx : wr.cell? ⟨b, off + k, none⟩ = some (.int .u8 (zs.getD k 0)) := (hb1.cell (p := ⟨b, off + k, none⟩) hbw).trans (hcell k hlt)
           have hzk : zs[k]? = some (zs.getD k 0) := by simp [List.getD, hlt]
           generalize zs.getD k 0 = z at hcx hzk
           have hst := hown.stored k (.int .u8 z)
           have hfr := hown.frozenAt k
           have hco : wr.cell? ⟨w.heap.size, k, none⟩ = some (.int .u8 0) := by
             rw [hown.cellAt k (by omega), List.getElem?_append_right (by simp; omega), List.getElem?_replicate, if_pos (by simp; omega)]
           have HS : Hid ((wr.setCell ⟨w.heap.size, k, none⟩ (.int .u8 z)).ownsRow w.heap.size 5 1 (.slice (some ⟨w.heap.size, 0, none⟩) zs.length zs.length) zs.length ((zs.map (Value.int .u8)).take (k + 1) ++ List.replicate (zs.length - (k + 1)) (.int .u8 0)) ∧ Below w.heap.size w (wr.setCell ⟨w.heap.size, k, none⟩ (.int .u8 z))) := by
             refine ⟨?_, hb1.setCell (Nat.le_refl _) _⟩
             rw [← set_fill (zs.map (Value.int .u8)) (.int .u8 z) (.int .u8 0) k zs.length hlt (by simp) (by simp [hzk])]
             exact hst.1
           clear hst hown hb1 hzk
           go_wp2
           go_roundw
           case rel => exact ⟨k + 1, by omega, by go_num, HS.out.1, HS.out.2⟩
           case measure => simp [intOf]; omega)
      · go_wp2
        go_ret
        refine ⟨_, rfl, ?_, hb1⟩
        have : k = zs.length := by omega
        subst this
        have e : (zs.map (Value.int .u8)).take zs.length = zs.map (Value.int .u8) := List.take_of_length_le (by simp)
        rw [e] at hown
        simpa using hown

set_option maxHeartbeats 400000 in
theorem eqByteS_any (v1 v2 : Value) (xs ys : List Int) (w : World) (h1 : Rd .u8 w v1 xs) (h2 : Rd .u8 w v2 ys) :
    Calls Tryz.prog 106 #[v1, v2] w fun e w' => e = .returned (.bool (decide (xs = ys))) ∧ Below w.heap.size w w' := by
  have hm := h1.len
  have hm2 := h2.len
  unfold maxLen at hm hm2
  by_cases hlen : xs.length = ys.length
  · have p1 : At .u8 w v1 xs.length xs := h1.parts
    have p2 : At .u8 w v2 ys.length ys := h2.parts
    rw [← hlen] at p2
    have HL : Hid (xs.length = ys.length) := hlen
    clear hlen h1 h2 hm2
    generalize hn : xs.length = n at *
    have HN : Hid (xs.length = n) := hn
    clear hn
    rcases p1 with ⟨a1, cap1, rfl, hlow⟩ | ⟨b1, off1, cap1, rfl, hbw1, hcell1⟩ <;> rcases p2 with ⟨a2, cap2, rfl, hlow2⟩ | ⟨b2, off2, cap2, rfl, hbw2, hcell2⟩
    all_goals
      go_enter Tryz.func106, Tryz.ntmps106
      go_wp2
      go_loopw [5] (fun i wr => ∃ k nq : Nat, k ≤ n ∧ i = .int .i64 k ∧ wr = w.drewN nq ∧ xs.take k = ys.take k) (fun i _ => n - (intOf i).toNat)
      case atStart => exact ⟨0, 0, Nat.zero_le _, rfl, rfl, rfl⟩
      case round =>
        obtain ⟨k, nq, hk, rfl, rfl, ht⟩ := hrel
        have HT : Hid (xs.take k = ys.take k) := ht
        clear ht
        by_cases hlt : k < n
        · first
          | omega
          | (have c1 := hcell1 k hlt
             have c2 := hcell2 k hlt
             have HX : Hid (xs.getD k 0 = ys.getD k 0 → xs.take (k + 1) = ys.take (k + 1)) := fun he => take_eq_step xs ys k (by have := HN.out; omega) (by have := HL.out; omega) HT.out he
             have HY : Hid (xs.getD k 0 ≠ ys.getD k 0 → ¬ xs = ys) := fun he h => he (by rw [h])
             generalize xs.getD k 0 = x at c1 HX HY
             generalize ys.getD k 0 = y at c2 HX HY
             have hlt' : (k : Int) < (n : Int) := by omega
             clear hcell1 hcell2
             by_cases hxy : x = y
             · have hq : (x != y) = false := by simp [hxy]
               have HXY : Hid (x = y) := hxy
               clear hxy
               go_wp2
               go_quiet (fail)
               go_wp2
               go_roundw
               case rel => exact ⟨k + 1, _, by omega, by go_num, rfl, HX.out HXY.out⟩
               case measure => simp [intOf]; omega
             · have hq : (x != y) = true := by simpa using hxy
               have HXY : Hid (x ≠ y) := hxy
               clear hxy
               go_wp2
               go_quiet (fail)
               go_wp2
               go_ret
               exact ⟨ret_bool (by have := HY.out HXY.out; simp [this]), below_drewN (below_drewN (Below.refl _ _) _) _⟩)
        · go_wp2
          go_ret
          have : k = n := by omega
          subst this
          have e1 := HT.out
          rw [List.take_of_length_le (by have := HN.out; omega), List.take_of_length_le (by have := HL.out; omega)] at e1
          exact ⟨ret_bool (by simp [e1]), below_drewN (Below.refl _ _) _⟩
  · obtain ⟨a1, cap1, rfl, _, _⟩ := h1
    obtain ⟨a2, cap2, rfl, _, _⟩ := h2
    have hq : ((xs.length : Int) == (ys.length : Int)) = false := by simp; omega
    have HF : Hid (¬ xs = ys) := fun h => hlen (by rw [h])
    clear hlen
    go_enter Tryz.func106, Tryz.ntmps106
    go_wp2
    go_ret
    exact ⟨ret_bool (by simp [HF.out]), Below.refl _ _⟩

theorem eqByteS_same (v1 v2 : Value) (xs : List Int) (w : World) (h1 : Rd .u8 w v1 xs) (h2 : Rd .u8 w v2 xs) :
    Calls Tryz.prog 106 #[v1, v2] w fun e w' => e = .returned (.bool true) ∧ Below w.heap.size w w' := by
  refine (eqByteS_any v1 v2 xs xs w h1 h2).mono ?_
  rintro e w' ⟨rfl, hb⟩
  exact ⟨by simp, hb⟩
end Go.Proofs.YtplieplmhdfndaaGreatDoor

namespace Go.Proofs.YtplieplmhdfndaaGreatDoor
open Go.RowKit

set_option maxHeartbeats 400000 in
theorem markByteS_any (v : Value) (base n k0 : Nat) (xs : List Value) (w : World) (h : w.ownsRow base 5 1 v n xs) (hn : n ≤ 140737488355328) (hk0 : k0 ≤ 140737488355328) :
    Calls Tryz.prog 70 #[v, .int .i64 k0] w fun e w' => e = .returned (.int .i64 ((k0 + n : Nat) : Int)) ∧ w'.ownsRow base 5 1 v n ((mk8 k0 n).map (Value.int .u8)) ∧ w.grownBy w' v.ownBlock := by
  rcases h.2 with ⟨rfl, rfl⟩ | ⟨g, cap, cur, rfl, hb, hg, hnc, hcm, hcs, htake⟩
  · clear h
    go_enter Tryz.func70, Tryz.ntmps70
    go_wp2
    refine wp_loop_rounds 1 ?_
    rw [rounds_succ]
    go_wp2
    go_ret
    exact ⟨rfl, World.ownsRow_nil _ _ _ _, World.grownBy.refl _ _⟩
  · have hown : w.ownsRow base 5 1 (.slice (some ⟨g, 0, none⟩) n cap) n xs := h
    have hxl : xs.length = n := by have := h.1; omega
    clear h hg hcs htake hb
    go_enter Tryz.func70, Tryz.ntmps70
    go_wp2
    go_loopw [1, 5] (fun q i wr => ∃ k : Nat, k ≤ n ∧ i = .int .i64 k ∧ q = .int .i64 ((k0 + k : Nat) : Int) ∧ wr.ownsRow base 5 1 (.slice (some ⟨g, 0, none⟩) n cap) n (((mk8 k0 n).map (Value.int .u8)).take k ++ xs.drop k) ∧ w.grownBy wr (some g)) (fun _ i _ => n - (intOf i).toNat)
    case atStart => exact ⟨0, Nat.zero_le _, rfl, rfl, by simpa using hown, World.grownBy.refl _ _⟩
    case round =>
      clear hown
      obtain ⟨k, hk, rfl, rfl, hown, hgr⟩ := hrel
      by_cases hlt : k < n
      · have hst := hown.stored k (.int .u8 (((k0 + k : Nat) : Int) % 256))
        have hfr := hown.frozenAt k
        obtain ⟨old, hco⟩ : ∃ u, wr.cell? ⟨g, k, none⟩ = some u := by
          rw [hown.cellAt k (by omega)]
          exact ⟨_, List.getElem?_eq_getElem (by simp [mk8_len]; omega)⟩
        have HS : Hid ((wr.setCell ⟨g, k, none⟩ (.int .u8 (((k0 + k : Nat) : Int) % 256))).ownsRow base 5 1 (.slice (some ⟨g, 0, none⟩) n cap) n (((mk8 k0 n).map (Value.int .u8)).take (k + 1) ++ xs.drop (k + 1)) ∧ w.grownBy (wr.setCell ⟨g, k, none⟩ (.int .u8 (((k0 + k : Nat) : Int) % 256))) (some g)) := by
          refine ⟨?_, grownBy_trans hgr hst.2⟩
          rw [← set_over ((mk8 k0 n).map (Value.int .u8)) xs (.int .u8 (((k0 + k : Nat) : Int) % 256)) k n hlt (by simp [mk8_len]) hxl (by simp [mk8_get k0 n k hlt])]
          exact hst.1
        clear hst hown hgr hxl
        generalize hq : k0 + k = q at *
        have HQ : Hid (k0 + k = q) := hq
        have hql : q ≤ 281474976710656 := by omega
        clear hq
        go_wp2
        go_roundw
        case rel => exact ⟨k + 1, by omega, by go_num, by rw [← Nat.add_assoc, HQ.out]; go_num, HS.out.1, HS.out.2⟩
        case measure => simp [intOf]; omega
      · go_wp2
        go_ret
        have : k = n := by omega
        subst this
        have e : ((mk8 k0 k).map (Value.int .u8)).take k = (mk8 k0 k).map (Value.int .u8) := List.take_of_length_le (by simp [mk8_len])
        rw [e, List.drop_of_length_le (by omega)] at hown
        exact ⟨rfl, by simpa using hown, hgr⟩

end Go.Proofs.YtplieplmhdfndaaGreatDoor

namespace Go.Proofs.YtplieplmhdfndaaGreatDoor
open Go.RowKit

/-- The m lowest bytes of n, the lowest first. -/
def le : Nat → Nat → List Int
  | 0, _ => []
  | m + 1, n => ((n % 256 : Nat) : Int) :: le m (n / 256)
theorem le_len : ∀ m n, (le m n).length = m
  | 0, _ => rfl
  | m + 1, n => by simp [le, le_len m]
theorem le_step (ys : List Int) (m j q : Nat) (h : j < m) : ys ++ le (m - j) q = ys ++ [((q % 256 : Nat) : Int)] ++ le (m - (j + 1)) (q / 256) := by
  have e : m - j = (m - (j + 1)) + 1 := by omega
  rw [e, le]
  simp
theorem one_u8 (z : Int) : ∀ u ∈ [Value.int .u8 z], u.oneCell' = true := by
  intro u hu
  rw [List.mem_singleton] at hu
  subst hu
  rfl

set_option maxRecDepth 100000 in
theorem len64_32 (w : World) : Calls Tryz.prog 188 #[.int .u64 4294967295] w fun e w' => e = .returned (.int .i64 32) ∧ w = w' := by
  go_enter Tryz.func188, Tryz.ntmps188
  go_wp2
  go_ret
  exact ⟨ret_int (by simp only [wrap64]; decide +kernel), rfl⟩
theorem width32 (w : World) : Calls Tryz.prog 174 #[] w fun e w' => e = .returned (.int .i64 4) ∧ w = w' := by
  have hx : IntKind.u64.wrap (bits BinOp.xor IntKind.u32 IntKind.u32.max 0) = 4294967295 := by decide +kernel
  go_enter Tryz.func174, Tryz.ntmps174
  go_wp2_with fail
  refine (len64_32 _).mono ?_
  rintro e w' ⟨rfl, rfl⟩
  go_wp2
  go_ret
  exact ⟨rfl, rfl⟩

set_option maxRecDepth 100000 in
theorem len64_8 (w : World) : Calls Tryz.prog 188 #[.int .u64 255] w fun e w' => e = .returned (.int .i64 8) ∧ w = w' := by
  go_enter Tryz.func188, Tryz.ntmps188
  go_wp2
  go_ret
  exact ⟨ret_int (by simp only [wrap64]; decide +kernel), rfl⟩
theorem width8 (w : World) : Calls Tryz.prog 175 #[] w fun e w' => e = .returned (.int .i64 1) ∧ w = w' := by
  have hx : IntKind.u64.wrap (bits BinOp.xor IntKind.u8 IntKind.u8.max 0) = 255 := by decide +kernel
  go_enter Tryz.func175, Tryz.ntmps175
  go_wp2_with fail
  refine (len64_8 _).mono ?_
  rintro e w' ⟨rfl, rfl⟩
  go_wp2
  go_ret
  exact ⟨rfl, rfl⟩

end Go.Proofs.YtplieplmhdfndaaGreatDoor
