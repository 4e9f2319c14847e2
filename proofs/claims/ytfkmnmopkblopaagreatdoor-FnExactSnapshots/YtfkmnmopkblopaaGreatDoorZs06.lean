/- DecodeWords, the model's and the program's: both give decW. take at no bytes and at less than none; zeros and end. -/
import Derived.Test.YtfkmnmopkblopaaGreatDoorZs05
import Derived.Test.YtfkmnmopkblopaaGreatDoorZs03
import Derived.Test.YtfkmnmopkblopaaGreatDoorZs02
import Derived.Deep.MidRow
import Derived.Laws.Tables
import Derived.Laws.CopyOwn
import Derived.WalkLawsBesides
import Derived.Deep.DeepCutAuto
namespace Go.Proofs.YtfkmnmopkblopaaGreatDoor
open Go.RowKit

def wordAt (bs : List Int) (i : Nat) : Int := (unle ((bs.drop (4 * i)).take 4) : Nat)
def decTo (bs : List Int) (n : Nat) : List Int := (List.range n).map (wordAt bs)
def decW (bs : List Int) : List Int := if bs.length = 512 then decTo bs 128 else []
def codeD (bs : List Int) : Int := if bs.length = 512 then 0 else 21
theorem decTo_len (bs : List Int) (n : Nat) : (decTo bs n).length = n := by simp [decTo]
theorem decTo_succ (bs : List Int) (n : Nat) : decTo bs (n + 1) = decTo bs n ++ [wordAt bs n] := by simp [decTo, List.range_succ]
theorem decW_len (bs : List Int) : (decW bs).length ≤ 128 := by unfold decW; split <;> simp [decTo]
theorem take4_lt (bs : List Int) (i : Nat) (h : ∀ z ∈ bs, 0 ≤ z ∧ z < 256) : unle ((bs.drop (4 * i)).take 4) < 4294967296 := by
  have h1 := unle_lt ((bs.drop (4 * i)).take 4) (fun z hz => h z (List.mem_of_mem_drop (List.mem_of_mem_take hz)))
  have h2 : ((bs.drop (4 * i)).take 4).length ≤ 4 := by simp; omega
  have h3 : (256 : Nat) ^ ((bs.drop (4 * i)).take 4).length ≤ 256 ^ 4 := Nat.pow_le_pow_right (by decide) h2
  have h4 : (256 : Nat) ^ 4 = 4294967296 := by decide
  omega
theorem one_i64 (z : Int) : ∀ u ∈ [Value.int .i64 z], u.oneCell' = true := by
  intro u hu
  rw [List.mem_singleton] at hu
  subst hu
  rfl

theorem newReader_any (v : Value) (zs : List Int) (w : World) (h : Rd .u8 w v zs) :
    Calls Tryz.prog 64 #[v] w fun e w' => e = .returned (.pointer (some ⟨w.heap.size, 0, none⟩)) ∧ Rdr w w' w.heap.size (w.heap.size + 1) true v zs 0 ∧ Below w.heap.size w w' := by
  have H := hide h
  obtain ⟨a, cap, rfl, _⟩ := h
  have HR := hide (show Rdr w (w.alloc (.cells #[.int .i64 21, .nilIface, .slice a zs.length cap, .int .i64 0] 109)) w.heap.size (w.heap.size + 1) true (.slice a zs.length cap) zs 0 ∧ Below w.heap.size w (w.alloc (.cells #[.int .i64 21, .nilIface, .slice a zs.length cap, .int .i64 0] 109)) from by
    have hb : Below w.heap.size w (w.alloc (.cells #[.int .i64 21, .nilIface, .slice a zs.length cap, .int .i64 0] 109)) := (Below.refl _ _).alloc (Nat.le_refl _) _
    exact ⟨⟨⟨by simp, by simp, .nilIface, by simp, .inl ⟨rfl, rfl⟩⟩, by simp, by simp, by simp, hb, rfl, H.out, by omega, by omega, by simp⟩, hb⟩)
  go_enter Tryz.func64, Tryz.ntmps64
  go_wp2
  go_ret
  exact ⟨rfl, HR.out⟩

/-- A reader without a fault is kept behind writes to another row. -/
theorem Rdr.grownOk {w0 w w' : World} {b lo : Nat} {dv : Value} {zs : List Int} {pos : Nat} {r : Option Nat} (h : Rdr w0 w b lo true dv zs pos) (hg : w.grownBy w' r) (hne : ∀ k, r = some k → b < k) : Rdr w0 w' b lo true dv zs pos := by
  have hb : w'.heap[b]? = w.heap[b]? := hg.block b h.ck.lt (fun e => by have := hne b e.symm; omega)
  obtain ⟨c1, c2, ev, c3, c4⟩ := h.ck
  have hc : ∀ o, w'.cell? ⟨b, o, none⟩ = w.cell? ⟨b, o, none⟩ := fun o => World.cell?_of_block (a := ⟨b, o, none⟩) hb
  have hf : ∀ o, w'.frozen? ⟨b, o, none⟩ = w.frozen? ⟨b, o, none⟩ := fun o => World.frozen?_of_block (a := ⟨b, o, none⟩) hb
  refine ⟨⟨(hc 0).trans c1, (hf 1).trans c2, ev, (hc 1).trans c3, ?_⟩, (hc 2).trans h.data, (hc 3).trans h.at_, (hf 3).trans h.fr, ?_, h.size, h.rd, h.le, h.lo1, Nat.le_trans h.lo2 hg.size⟩
  · rcases c4 with c4 | ⟨c4, _⟩
    · exact .inl c4
    · cases c4
  · exact h.old.grown hg (Nat.le_of_lt h.ck.lt) (fun k e => Nat.le_of_lt (hne k e))
theorem set_dec (bs : List Int) (k n : Nat) (h : k < n) (z : Value) (hz : z = .int .i64 (wordAt bs k)) :
    ((decTo bs k).map (Value.int .i64) ++ List.replicate (n - k) (Value.int .i64 0)).set k z = (decTo bs (k + 1)).map (Value.int .i64) ++ List.replicate (n - (k + 1)) (Value.int .i64 0) := by
  subst hz
  have e : (decTo bs k).map (Value.int .i64) = ((decTo bs n).map (Value.int .i64)).take k := by
    rw [← List.map_take]
    congr 1
    simp [decTo, ← List.map_take, List.take_range, Nat.min_eq_left (Nat.le_of_lt h)]
  have e2 : (decTo bs (k + 1)).map (Value.int .i64) = ((decTo bs n).map (Value.int .i64)).take (k + 1) := by
    rw [← List.map_take]
    congr 1
    simp [decTo, ← List.map_take, List.take_range, Nat.min_eq_left (show k + 1 ≤ n by omega)]
  rw [e, e2]
  exact set_fill _ _ _ k n h (by simp [decTo]) (by simp [decTo, h])

theorem or_add8 (a b : Nat) (ha : a < 256) : a ||| (b * 256) = a + b * 256 := by
  rw [Nat.or_comm, Nat.add_comm]
  have := Nat.two_pow_add_eq_or_of_lt (i := 8) (b := a) (by omega) b
  rw [show 2 ^ 8 * b = b * 256 by omega] at this
  exact this.symm
theorem or_add16 (a b : Nat) (ha : a < 65536) : a ||| (b * 65536) = a + b * 65536 := by
  rw [Nat.or_comm, Nat.add_comm]
  have := Nat.two_pow_add_eq_or_of_lt (i := 16) (b := a) (by omega) b
  rw [show 2 ^ 16 * b = b * 65536 by omega] at this
  exact this.symm
theorem or_add24 (a b : Nat) (ha : a < 16777216) : a ||| (b * 16777216) = a + b * 16777216 := by
  rw [Nat.or_comm, Nat.add_comm]
  have := Nat.two_pow_add_eq_or_of_lt (i := 24) (b := a) (by omega) b
  rw [show 2 ^ 24 * b = b * 16777216 by omega] at this
  exact this.symm
theorem or_natW (a b : Nat) (ha : a < 4294967296) (hb : b < 4294967296) : bits .or .i64 (a : Int) (b : Int) = ((a ||| b : Nat) : Int) := by
  show IntKind.i64.wrap ((BitVec.ofInt 64 (a : Int) ||| BitVec.ofInt 64 (b : Int)).toNat : Int) = _
  have e1 : (BitVec.ofInt 64 (a : Int)).toNat = a := by simp; omega
  have e2 : (BitVec.ofInt 64 (b : Int)).toNat = b := by simp; omega
  rw [BitVec.toNat_or, e1, e2]
  have : a ||| b < 2 ^ 32 := Nat.or_lt_two_pow ha hb
  generalize a ||| b = y at this
  simp [IntKind.wrap, IntKind.bits, IntKind.signed]
  omega
theorem or4W (x0 x1 x2 x3 : Nat) (h0 : x0 < 256) (h1 : x1 < 256) (h2 : x2 < 256) (h3 : x3 < 256) : bits .or .i64 (bits .or .i64 (bits .or .i64 (x0 : Int) ((x1 : Int) * 256)) ((x2 : Int) * 65536)) ((x3 : Int) * 16777216) = ((x0 + 256 * (x1 + 256 * (x2 + 256 * x3)) : Nat) : Int) := by
  rw [show (x1 : Int) * 256 = ((x1 * 256 : Nat) : Int) by omega, or_natW _ _ (by omega) (by omega), or_add8 _ _ h0]
  rw [show (x2 : Int) * 65536 = ((x2 * 65536 : Nat) : Int) by omega, or_natW _ _ (by omega) (by omega), or_add16 _ _ (by omega)]
  rw [show (x3 : Int) * 16777216 = ((x3 * 16777216 : Nat) : Int) by omega, or_natW _ _ (by omega) (by omega), or_add24 _ _ (by omega)]
  omega
theorem unle4 (a b c d : Int) : unle [a, b, c, d] = a.toNat + 256 * (b.toNat + 256 * (c.toNat + 256 * d.toNat)) := by simp [unle]
theorem four_of (bs : List Int) (k : Nat) (h : 4 * k + 4 ≤ bs.length) : ((bs.drop (4 * k)).take 4) = [bs.getD (4 * k) 0, bs.getD (4 * k + 1) 0, bs.getD (4 * k + 2) 0, bs.getD (4 * k + 3) 0] := by
  apply List.ext_getElem (by simp; omega)
  intro j hj hj'
  simp at hj hj'
  rw [List.getElem_take, List.getElem_drop]
  have e : ∀ i, i < bs.length → bs.getD i 0 = bs[i]! := fun i hi => by simp [List.getD, hi]
  match j, hj' with
  | 0, _ => simp [List.getD, show 4 * k < bs.length by omega]
  | 1, _ => simp [List.getD, show 4 * k + 1 < bs.length by omega]
  | 2, _ => simp [List.getD, show 4 * k + 2 < bs.length by omega]
  | 3, _ => simp [List.getD, show 4 * k + 3 < bs.length by omega]
  | n + 4, h => omega
set_option maxRecDepth 100000 in
theorem slice_pieceW {w0 : World} {a : Option Addr} {len cap : Nat} {zs : List Int} (h : Rd .u8 w0 (.slice a len cap) zs) (lo hi : Nat) (h1 : lo ≤ hi) (h2 : hi ≤ zs.length) :
    ∃ a' c', Rd .u8 w0 (.slice a' (hi - lo) c') ((zs.drop lo).take (hi - lo)) ∧ ∀ wx, (Instr.slice 22 (.slice a len cap) (some (.int .i64 (lo : Int))) (some (.int .i64 (hi : Int))) none).run Tryz.prog wx = .ok (.slice a' (hi - lo) c') wx := by
  obtain ⟨i0, hi0, hz0, hz1, hz2⟩ := info_parts infoU8
  obtain ⟨a0, cap0, e, hm, hc, hl, hcm⟩ := h
  injection e with e1 e2 e3
  subst e1 e2 e3
  have hlen : ((zs.drop lo).take (hi - lo)).length = hi - lo := by rw [List.length_take, List.length_drop]; omega
  have hrun : ∀ wx, (Instr.slice 22 (.slice a zs.length cap) (some (.int .i64 (lo : Int))) (some (.int .i64 (hi : Int))) none).run Tryz.prog wx = .ok (sliced a lo hi cap 1) wx := fun wx => by
    rw [run_slice_lh (P := Tryz.prog) (w := wx) 22 a zs.length cap (by rw [Tryz.underlying22]; rfl) .i64 .i64 (lo : Int) (hi : Int) (by omega) (by omega) (by omega)]
    simp [sizeOf, typeInfo, show Tryz.prog.elem 22 = 5 from by kernel_rfl, hi0, hz1, Result.andThen]
  refine ⟨_, _, ?_, hrun⟩
  refine ⟨_, _, by rw [hlen], by omega, fun hne => ?_, by rw [hlen]; omega, by omega⟩
  have hp : lo < zs.length := by
    rcases Nat.lt_or_ge lo zs.length with h | h
    · exact h
    · exact absurd (by rw [List.drop_eq_nil_of_le h]; simp) hne
  obtain ⟨b, off, rfl, hb, hcell⟩ := hc (fun e => by rw [e] at hp; simp at hp)
  refine ⟨b, off + lo, ?_, hb, fun i hi2 => ?_⟩
  · rw [if_neg (by omega), Option.map_some, Nat.mul_one, Addr.add_mid]
  · rw [hlen] at hi2
    rw [Nat.add_assoc, hcell (lo + i) (by omega)]
    simp [List.getD, hi2]
set_option maxRecDepth 100000 in
theorem slice_pieceWL {w0 : World} {a : Option Addr} {len cap : Nat} {zs : List Int} (h : Rd .u8 w0 (.slice a len cap) zs) (lo : Nat) (h2 : lo ≤ zs.length) :
    ∃ a' c', Rd .u8 w0 (.slice a' (zs.length - lo) c') (zs.drop lo) ∧ ∀ wx, (Instr.slice 22 (.slice a len cap) (some (.int .i64 (lo : Int))) none none).run Tryz.prog wx = .ok (.slice a' (zs.length - lo) c') wx := by
  obtain ⟨a', c', hr, hrun⟩ := slice_pieceW h lo zs.length h2 (Nat.le_refl _)
  have hl : len = zs.length := by obtain ⟨_, _, e, _⟩ := h; injection e
  obtain ⟨_, _, e0, _, _, hl2, hcm⟩ := h
  injection e0 with e1 e2 e3
  subst e3
  rw [List.take_of_length_le (by rw [List.length_drop]; omega)] at hr
  refine ⟨a', c', hr, fun wx => ?_⟩
  rw [← hrun wx, run_slice_l (P := Tryz.prog) (w := wx) 22 a len cap (by rw [Tryz.underlying22]; rfl) .i64 (lo : Int) (by omega) (by omega), run_slice_lh (P := Tryz.prog) (w := wx) 22 a len cap (by rw [Tryz.underlying22]; rfl) .i64 .i64 (lo : Int) (zs.length : Int) (by omega) (by omega) (by omega)]
  rw [Int.toNat_natCast, hl, Int.toNat_natCast]
end Go.Proofs.YtfkmnmopkblopaaGreatDoor

namespace Go.Proofs.YtfkmnmopkblopaaGreatDoor
set_option linter.unnecessarySimpa false
open Go.RowKit

set_option maxRecDepth 100000 in
set_option maxHeartbeats 1000000 in
theorem take_zero (w0 w : World) (b lo : Nat) (ok : Bool) (dv : Value) (zs : List Int) (pos : Nat) (h : Rdr w0 w b lo ok dv zs pos) (hp : 0 < pos) (hz : zs.length ≤ 140737488355328) :
    Calls Tryz.prog 81 #[.pointer (some ⟨b, 0, none⟩), .int .i64 0] w fun e w' => ∃ sv, e = .returned sv ∧ Took w0 w w' b lo ok dv zs pos 0 sv := by
  have hd := h.data
  have ha := h.at_
  have hl := h.le
  have hlt := h.ck.lt
  obtain ⟨bd, off, cap, rfl, hbd, hcl, hcm, hcell⟩ := h.read.partsC (by omega)
  have HP := hide (And.intro hcell hbd)
  have H := hide h
  unfold maxLen at hcm
  clear h hcell
  have HQ := hide (show decide ((0 : Int) ≤ IntKind.i64.wrap ((zs.length : Int) - (pos : Int))) = true from by rw [IntKind.wrap_i64]; simp; omega)
  go_enter Tryz.func81, Tryz.ntmps81
  go_wp2
  go_region_held (fun w' => w'.cell? ⟨b, 2, none⟩ = some (.slice (some ⟨bd, off, none⟩) zs.length cap) ∧ w'.cell? ⟨b, 3, none⟩ = some (.int .i64 pos)) (go_keep) ((go_at_call 32; refine (need_any b lo _ 21 ok (decide ((0 : Int) ≤ IntKind.i64.wrap ((zs.length : Int) - (pos : Int)))) _ (H.out.ck.below ((Below.refl _ _).drew)) H.out.lo1 H.out.lo2).mono ?_; rintro e w1 ⟨rfl, hc1, ht1⟩; have hd1 := (ht1.2.1 2 (by omega)).trans hd; have ha1 := (ht1.2.1 3 (by omega)).trans ha))
  rw [HQ.out, Bool.and_true] at hc1
  have ht1' : Tch b w w1 := (Tch.of_below hlt ((Below.refl _ _).drew)).trans ht1
  have R1 := hide (H.out.tch hc1 ht1')
  have G1 := hide ht1'.1
  have hf1 := R1.out.fr
  obtain ⟨c1, c2, ev, c3, c4⟩ := hc1
  clear ht1 ht1'
  rcases c4 with ⟨rfl, rfl⟩ | ⟨rfl, m, c4⟩
  · have k2 : (w1.setCell ⟨b, 3, none⟩ (.int .i64 (pos : Int))).cell? ⟨b, 2, none⟩ = some (.slice (some ⟨bd, off, none⟩) zs.length cap) := by
      rw [World.cell?_setCell_other _ _ _ _ (by intro e; injection e with e1 e2; omega)]; exact hd1
    have k3 : (w1.setCell ⟨b, 3, none⟩ (.int .i64 (pos : Int))).cell? ⟨b, 3, none⟩ = some (.int .i64 (pos : Int)) := World.cell?_setCell_same _ _ _ ha1
    go_wp2
    go_quiet (fail)
    go_wp2
    all_goals
      go_ret
      refine ⟨_, rfl, ?_, .inl ⟨rfl, by omega, by omega, ?_, ?_⟩⟩
      · exact ⟨G1.out.os, G1.out.tape, G1.out.output, by simpa using G1.out.size, fun k hk hne => (Below.heap_setCell w1 ⟨b, 3, none⟩ _ k (fun e => hne (by rw [e]))).trans (G1.out.block k hk hne)⟩
      · exact ⟨_, _, rfl, by simp, fun h => absurd (by simp) h, by simp, by unfold maxLen; omega⟩
      · have hm := R1.out.moved pos nq (by omega) (.int .i64 (pos : Int)) rfl
        first | exact hm | (simp [*]; done) | simpa [*] using hm
  · obtain ⟨t', x', rfl⟩ := c4.iface
    clear c4
    go_wp2
    go_ret
    exact ⟨_, rfl, G1.out, .inr ⟨fun h => (by cases h.1), rfl, R1.out⟩⟩

theorem take_nn (w0 w : World) (b lo : Nat) (ok : Bool) (dv : Value) (zs : List Int) (pos n : Nat) (x : Int) (hx : x = n) (h : Rdr w0 w b lo ok dv zs pos) (hn0 : 0 < n ∨ 0 < pos) (hn : n ≤ 4294967296) (hz : zs.length ≤ 140737488355328) :
    Calls Tryz.prog 81 #[.pointer (some ⟨b, 0, none⟩), .int .i64 x] w fun e w' => ∃ sv, e = .returned sv ∧ Took w0 w w' b lo ok dv zs pos n sv := by
  subst hx
  by_cases h0 : 0 < n
  · exact take_any w0 w b lo ok dv zs pos n h h0 hn hz
  · have e0 : n = 0 := by omega
    subst e0
    exact take_zero w0 w b lo ok dv zs pos h (by omega) hz

/-- What zeros leaves: a reader at the place told, with a fault where a byte up to there isn't 0; or a fault at once. -/
def Zd (w0 w w' : World) (b lo : Nat) (ok : Bool) (dv : Value) (zs : List Int) (pos at_ : Nat) : Prop :=
  w.grownBy w' (some b) ∧ ((ok = true ∧ at_ ≤ zs.length ∧ Rdr w0 w' b lo (((zs.drop pos).take (at_ - pos)).all (fun z => decide (z = 0))) dv zs at_) ∨ (¬ (ok = true ∧ at_ ≤ zs.length) ∧ Rdr w0 w' b lo false dv zs pos))

theorem all_take0 (ts : List Int) (k : Nat) (h : k < ts.length) : (ts.take (k + 1)).all (fun z => decide (z = 0)) = ((ts.take k).all (fun z => decide (z = 0)) && decide (ts.getD k 0 = 0)) := by
  rw [List.take_succ_eq_append_getElem h, List.all_append]
  simp [List.getD, h]

set_option maxRecDepth 100000 in
set_option maxHeartbeats 1000000 in
theorem zeros_any (w0 w : World) (b lo : Nat) (ok : Bool) (dv : Value) (zs : List Int) (pos at_ : Nat) (h : Rdr w0 w b lo ok dv zs pos) (hp : pos ≤ at_) (hn0 : 0 < at_) (hn : at_ ≤ 4294967296) (hz : zs.length ≤ 140737488355328) :
    Calls Tryz.prog 69 #[.pointer (some ⟨b, 0, none⟩), .int .i64 at_] w fun e w' => e = .returned (.tuple #[]) ∧ Zd w0 w w' b lo ok dv zs pos at_ := by
  have ha := h.at_
  have H := hide h
  clear h
  go_enter Tryz.func69, Tryz.ntmps69
  go_wp2_with fail
  refine (take_nn w0 _ b lo ok dv zs pos (at_ - pos) _ (by go_num) H.out (by omega) (by omega) hz).mono ?_
  rintro e w1 ⟨sv, rfl, hg, ht⟩
  rcases ht with ⟨hok, _, hle, hrd, hr⟩ | ⟨hno, rfl, hr⟩
  · rw [Int.toNat_natCast] at hrd hr
    rw [show pos + (at_ - pos) = at_ from by omega] at hr
    have hlen : ((zs.drop pos).take (at_ - pos)).length = at_ - pos := by simp; omega
    have HE := hide (show ∀ w2, w1.grownBy w2 (some b) → Rdr w0 w2 b lo (((zs.drop pos).take (at_ - pos)).all (fun z => decide (z = 0))) dv zs at_ → Zd w0 w w2 b lo ok dv zs pos at_ from
      fun w2 g2 r2 => ⟨grownBy_trans hg g2, .inl ⟨hok, by omega, r2⟩⟩)
    generalize (zs.drop pos).take (at_ - pos) = ts at hrd hlen HE
    generalize at_ - pos = m at hlen
    have HR := hide hr
    clear hg hok hle ha H hp hn0 hn
    subst hlen
    obtain ⟨a, cap, rfl, hm, hc, _⟩ := hrd
    have HC := hide hc
    clear hc
    unfold maxLen at hm
    clear hr
    go_wp2
    go_loopw [5, 15] (fun _ i wr => ∃ k : Nat, k ≤ ts.length ∧ i = .int .i64 k ∧ w1.grownBy wr (some b) ∧ Rdr w0 wr b lo ((ts.take k).all (fun z => decide (z = 0))) dv zs at_) (fun _ i _ => ts.length - (intOf i).toNat)
    case atStart => exact ⟨0, by omega, rfl, World.grownBy.refl _ _, HR.out⟩
    case round =>
      obtain ⟨k, hk, rfl, hgr, hrr⟩ := hrel
      have HK := hide (And.intro hgr hrr)
      clear hgr hrr HR
      by_cases hlt : k < ts.length
      · obtain ⟨bd, off, rfl, hbd, hcell⟩ := HC.out (fun e => by rw [e] at hlt; simp at hlt)
        have c1 : wr.cell? ⟨bd, off + k, none⟩ = some (.int .u8 (ts.getD k 0)) := (HK.out.2.old.cell (p := ⟨bd, off + k, none⟩) (by rw [← HK.out.2.size]; exact hbd)).trans (hcell k hlt)
        have HT := hide (all_take0 ts k hlt)
        clear hcell HC hbd
        generalize ts.getD k 0 = z at c1 HT
        go_wp2_with (go_at_call 32; fail)
        refine (need_any b lo _ 21 _ _ _ HK.out.2.ck HK.out.2.lo1 HK.out.2.lo2).mono ?_
        rintro e w2 ⟨rfl, hc2, ht2⟩
        have HW := hide (show w1.grownBy w2 (some b) ∧ Rdr w0 w2 b lo ((ts.take (k + 1)).all (fun z => decide (z = 0))) dv zs at_ from by
          rw [HT.out]
          exact ⟨grownBy_trans HK.out.1 ht2.1, HK.out.2.tch hc2 ht2⟩)
        clear hc2 ht2 c1
        go_wp2
        go_roundw
        case rel => exact ⟨k + 1, by omega, by go_num, HW.out.1, HW.out.2⟩
        case measure => simp [intOf]; omega
      · have ek : k = ts.length := by omega
        subst ek
        have HF := hide (HE.out wr HK.out.1 (by have h2 := HK.out.2; rw [List.take_of_length_le (Nat.le_refl _)] at h2; exact h2))
        clear hlt
        go_wp2
        go_end0
        exact ⟨rfl, HF.out⟩
  · have HE := hide (show Zd w0 w w1 b lo ok dv zs pos at_ from ⟨hg, .inr ⟨fun h => hno ⟨h.1, by omega, by omega⟩, hr⟩⟩)
    clear hr hg hno ha H
    go_wp2
    refine wp_loop_rounds 1 ?_
    rw [rounds_succ]
    go_wp2
    go_end0
    exact ⟨rfl, HE.out⟩

/-- What end leaves: no fault where none was, the bytes up to the place told are 0 and nothing lies behind it. -/
def Ed (w0 w w' : World) (b lo : Nat) (ok : Bool) (dv : Value) (zs : List Int) (pos at_ : Nat) : Prop :=
  w.grownBy w' (some b) ∧ ∃ p, Rdr w0 w' b lo (ok && (((zs.drop pos).take (at_ - pos)).all (fun z => decide (z = 0)) && decide (zs.length = at_))) dv zs p

set_option maxRecDepth 100000 in
set_option maxHeartbeats 1000000 in
theorem end_any (w0 w : World) (b lo : Nat) (ok : Bool) (dv : Value) (zs : List Int) (pos at_ : Nat) (h : Rdr w0 w b lo ok dv zs pos) (hp : pos ≤ at_) (hn0 : 0 < at_) (hn : at_ ≤ 4294967296) (hz : zs.length ≤ 140737488355328) :
    Calls Tryz.prog 46 #[.pointer (some ⟨b, 0, none⟩), .int .i64 at_] w fun e w' => e = .returned (.tuple #[]) ∧ Ed w0 w w' b lo ok dv zs pos at_ := by
  have H := hide h
  obtain ⟨a, cap, rfl⟩ : ∃ a cap, dv = .slice a zs.length cap := by obtain ⟨a, cap, h1, _⟩ := h.rd; exact ⟨a, cap, h1⟩
  clear h
  go_enter Tryz.func46, Tryz.ntmps46
  go_wp2_with fail
  refine (zeros_any w0 _ b lo ok _ zs pos at_ H.out hp hn0 hn hz).mono ?_
  rintro e w1 ⟨rfl, hg, hzd⟩
  obtain ⟨ok1, p1, hr, HE⟩ : ∃ ok1 p1, Rdr w0 w1 b lo ok1 (.slice a zs.length cap) zs p1 ∧ Hid ((ok1 && decide ((p1 : Int) = (zs.length : Int))) = (ok && (((zs.drop pos).take (at_ - pos)).all (fun z => decide (z = 0)) && decide (zs.length = at_)))) := by
    rcases hzd with ⟨rfl, hle, hr⟩ | ⟨hno, hr⟩
    · refine ⟨_, _, hr, ?_⟩
      show _ = _
      rw [Bool.true_and]
      congr 1
      rw [decide_eq_decide]
      omega
    · refine ⟨_, _, hr, ?_⟩
      show _ = _
      rw [Bool.false_and]
      cases ok with
      | false => rfl
      | true =>
        have : ¬ zs.length = at_ := fun e => hno ⟨rfl, by omega⟩
        simp [this]
  have HR := hide hr
  have HG := hide hg
  have hd1 := hr.data
  have ha1 := hr.at_
  have hlt1 := hr.ck.lt
  clear hr hg hzd H
  go_wp2
  go_region_held (fun w' => w'.cell? ⟨b, 2, none⟩ = some (.slice a zs.length cap) ∧ w'.cell? ⟨b, 3, none⟩ = some (.int .i64 p1)) (go_keep) ((go_at_call 32; refine (need_any b lo _ 21 ok1 _ _ (HR.out.ck.below ((Below.refl _ _).drew)) HR.out.lo1 HR.out.lo2).mono ?_; rintro e w2 ⟨rfl, hc2, ht2⟩; have hd2 := (ht2.2.1 2 (by omega)).trans hd1; have ha2 := (ht2.2.1 3 (by omega)).trans ha1))
  have ht2' : Tch b w1 w2 := (Tch.of_below hlt1 ((Below.refl _ _).drew)).trans ht2
  have HW := hide (show Ed w0 w w2 b lo ok (.slice a zs.length cap) zs pos at_ from by
    refine ⟨grownBy_trans HG.out ht2'.1, p1, ?_⟩
    rw [← HE]
    exact HR.out.tch hc2 ht2')
  clear hc2 ht2 ht2' hd2 ha2
  go_wp2
  go_end0
  exact ⟨rfl, HW.out⟩
end Go.Proofs.YtfkmnmopkblopaaGreatDoor
