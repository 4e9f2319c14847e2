/- DecodeWords, the model's and the program's: both give decW. -/
import Derived.Test.YtplieplmhdfndaaGreatDoorZw05
import Derived.Test.YtplieplmhdfndaaGreatDoorZw02
import Derived.Test.YtplieplmhdfndaaGreatDoorZw04
import Derived.Deep.MidRow
import Derived.Laws.Tables
import Derived.Laws.CopyOwn
import Derived.WalkLawsBesides
import Derived.Deep.DeepCutAuto
namespace Go.Proofs.YtplieplmhdfndaaGreatDoor
open Go.RowKit

def wordAt (bs : List Int) (i : Nat) : Int := (unle ((bs.drop (4 * i)).take 4) : Nat)
def decTo (bs : List Int) (n : Nat) : List Int := (List.range n).map (wordAt bs)
def decW (bs : List Int) : List Int := if bs.length = 512 then decTo bs 128 else []
def codeD (bs : List Int) : Int := if bs.length = 512 then 0 else 21
theorem decTo_len (bs : List Int) (n : Nat) : (decTo bs n).length = n := by simp [decTo]
theorem decTo_succ (bs : List Int) (n : Nat) : decTo bs (n + 1) = decTo bs n ++ [wordAt bs n] := by simp [decTo, List.range_succ]
theorem decW_len (bs : List Int) : (decW bs).length ≤ 128 := by unfold decW; split <;> simp [decTo]
theorem take4_lt (bs : List Int) (i : Nat) (h : ∀ z ∈ bs, 0 ≤ z ∧ z < 256) : unle ((bs.drop (4 * i)).take 4) < 4294967296 := by
  have h1 := unle_lt ((bs.drop (4 * i)).take 4) (fun z hz => h z (List.mem_of_mem_drop (List.mem_of_mem_take hz)))
  have h2 : ((bs.drop (4 * i)).take 4).length ≤ 4 := by simp; omega
  have h3 : (256 : Nat) ^ ((bs.drop (4 * i)).take 4).length ≤ 256 ^ 4 := Nat.pow_le_pow_right (by decide) h2
  have h4 : (256 : Nat) ^ 4 = 4294967296 := by decide
  omega
theorem one_i64 (z : Int) : ∀ u ∈ [Value.int .i64 z], u.oneCell' = true := by
  intro u hu
  rw [List.mem_singleton] at hu
  subst hu
  rfl

theorem newReader_any (v : Value) (zs : List Int) (w : World) (h : Rd .u8 w v zs) :
    Calls Tryz.prog 133 #[v] w fun e w' => e = .returned (.pointer (some ⟨w.heap.size, 0, none⟩)) ∧ Rdr w w' w.heap.size (w.heap.size + 1) true v zs 0 ∧ Below w.heap.size w w' := by
  have H := hide h
  obtain ⟨a, cap, rfl, _⟩ := h
  have HR := hide (show Rdr w (w.alloc (.cells #[.int .i64 21, .nilIface, .slice a zs.length cap, .int .i64 0] 216)) w.heap.size (w.heap.size + 1) true (.slice a zs.length cap) zs 0 ∧ Below w.heap.size w (w.alloc (.cells #[.int .i64 21, .nilIface, .slice a zs.length cap, .int .i64 0] 216)) from by
    have hb : Below w.heap.size w (w.alloc (.cells #[.int .i64 21, .nilIface, .slice a zs.length cap, .int .i64 0] 216)) := (Below.refl _ _).alloc (Nat.le_refl _) _
    exact ⟨⟨⟨by simp, by simp, .nilIface, by simp, .inl ⟨rfl, rfl⟩⟩, by simp, by simp, by simp, hb, rfl, H.out, by omega, by omega, by simp⟩, hb⟩)
  go_enter Tryz.func133, Tryz.ntmps133
  go_wp2
  go_ret
  exact ⟨rfl, HR.out⟩

/-- A reader without a fault is kept behind writes to another row. -/
theorem Rdr.grownOk {w0 w w' : World} {b lo : Nat} {dv : Value} {zs : List Int} {pos : Nat} {r : Option Nat} (h : Rdr w0 w b lo true dv zs pos) (hg : w.grownBy w' r) (hne : ∀ k, r = some k → b < k) : Rdr w0 w' b lo true dv zs pos := by
  have hb : w'.heap[b]? = w.heap[b]? := hg.block b h.ck.lt (fun e => by have := hne b e.symm; omega)
  obtain ⟨c1, c2, ev, c3, c4⟩ := h.ck
  have hc : ∀ o, w'.cell? ⟨b, o, none⟩ = w.cell? ⟨b, o, none⟩ := fun o => World.cell?_of_block (a := ⟨b, o, none⟩) hb
  have hf : ∀ o, w'.frozen? ⟨b, o, none⟩ = w.frozen? ⟨b, o, none⟩ := fun o => World.frozen?_of_block (a := ⟨b, o, none⟩) hb
  refine ⟨⟨(hc 0).trans c1, (hf 1).trans c2, ev, (hc 1).trans c3, ?_⟩, (hc 2).trans h.data, (hc 3).trans h.at_, (hf 3).trans h.fr, ?_, h.size, h.rd, h.le, h.lo1, Nat.le_trans h.lo2 hg.size⟩
  · rcases c4 with c4 | ⟨c4, _⟩
    · exact .inl c4
    · cases c4
  · exact h.old.grown hg (Nat.le_of_lt h.ck.lt) (fun k e => Nat.le_of_lt (hne k e))
theorem set_dec (bs : List Int) (k n : Nat) (h : k < n) (z : Value) (hz : z = .int .i64 (wordAt bs k)) :
    ((decTo bs k).map (Value.int .i64) ++ List.replicate (n - k) (Value.int .i64 0)).set k z = (decTo bs (k + 1)).map (Value.int .i64) ++ List.replicate (n - (k + 1)) (Value.int .i64 0) := by
  subst hz
  have e : (decTo bs k).map (Value.int .i64) = ((decTo bs n).map (Value.int .i64)).take k := by
    rw [← List.map_take]
    congr 1
    simp [decTo, ← List.map_take, List.take_range, Nat.min_eq_left (Nat.le_of_lt h)]
  have e2 : (decTo bs (k + 1)).map (Value.int .i64) = ((decTo bs n).map (Value.int .i64)).take (k + 1) := by
    rw [← List.map_take]
    congr 1
    simp [decTo, ← List.map_take, List.take_range, Nat.min_eq_left (show k + 1 ≤ n by omega)]
  rw [e, e2]
  exact set_fill _ _ _ k n h (by simp [decTo]) (by simp [decTo, h])

theorem or_add8 (a b : Nat) (ha : a < 256) : a ||| (b * 256) = a + b * 256 := by
  rw [Nat.or_comm, Nat.add_comm]
  have := Nat.two_pow_add_eq_or_of_lt (i := 8) (b := a) (by omega) b
  rw [show 2 ^ 8 * b = b * 256 by omega] at this
  exact this.symm
theorem or_add16 (a b : Nat) (ha : a < 65536) : a ||| (b * 65536) = a + b * 65536 := by
  rw [Nat.or_comm, Nat.add_comm]
  have := Nat.two_pow_add_eq_or_of_lt (i := 16) (b := a) (by omega) b
  rw [show 2 ^ 16 * b = b * 65536 by omega] at this
  exact this.symm
theorem or_add24 (a b : Nat) (ha : a < 16777216) : a ||| (b * 16777216) = a + b * 16777216 := by
  rw [Nat.or_comm, Nat.add_comm]
  have := Nat.two_pow_add_eq_or_of_lt (i := 24) (b := a) (by omega) b
  rw [show 2 ^ 24 * b = b * 16777216 by omega] at this
  exact this.symm
theorem or_natW (a b : Nat) (ha : a < 4294967296) (hb : b < 4294967296) : bits .or .i64 (a : Int) (b : Int) = ((a ||| b : Nat) : Int) := by
  show IntKind.i64.wrap ((BitVec.ofInt 64 (a : Int) ||| BitVec.ofInt 64 (b : Int)).toNat : Int) = _
  have e1 : (BitVec.ofInt 64 (a : Int)).toNat = a := by simp; omega
  have e2 : (BitVec.ofInt 64 (b : Int)).toNat = b := by simp; omega
  rw [BitVec.toNat_or, e1, e2]
  have : a ||| b < 2 ^ 32 := Nat.or_lt_two_pow ha hb
  generalize a ||| b = y at this
  simp [IntKind.wrap, IntKind.bits, IntKind.signed]
  omega
theorem or4W (x0 x1 x2 x3 : Nat) (h0 : x0 < 256) (h1 : x1 < 256) (h2 : x2 < 256) (h3 : x3 < 256) : bits .or .i64 (bits .or .i64 (bits .or .i64 (x0 : Int) ((x1 : Int) * 256)) ((x2 : Int) * 65536)) ((x3 : Int) * 16777216) = ((x0 + 256 * (x1 + 256 * (x2 + 256 * x3)) : Nat) : Int) := by
  rw [show (x1 : Int) * 256 = ((x1 * 256 : Nat) : Int) by omega, or_natW _ _ (by omega) (by omega), or_add8 _ _ h0]
  rw [show (x2 : Int) * 65536 = ((x2 * 65536 : Nat) : Int) by omega, or_natW _ _ (by omega) (by omega), or_add16 _ _ (by omega)]
  rw [show (x3 : Int) * 16777216 = ((x3 * 16777216 : Nat) : Int) by omega, or_natW _ _ (by omega) (by omega), or_add24 _ _ (by omega)]
  omega
theorem unle4 (a b c d : Int) : unle [a, b, c, d] = a.toNat + 256 * (b.toNat + 256 * (c.toNat + 256 * d.toNat)) := by simp [unle]
theorem four_of (bs : List Int) (k : Nat) (h : 4 * k + 4 ≤ bs.length) : ((bs.drop (4 * k)).take 4) = [bs.getD (4 * k) 0, bs.getD (4 * k + 1) 0, bs.getD (4 * k + 2) 0, bs.getD (4 * k + 3) 0] := by
  apply List.ext_getElem (by simp; omega)
  intro j hj hj'
  simp at hj hj'
  rw [List.getElem_take, List.getElem_drop]
  have e : ∀ i, i < bs.length → bs.getD i 0 = bs[i]! := fun i hi => by simp [List.getD, hi]
  match j, hj' with
  | 0, _ => simp [List.getD, show 4 * k < bs.length by omega]
  | 1, _ => simp [List.getD, show 4 * k + 1 < bs.length by omega]
  | 2, _ => simp [List.getD, show 4 * k + 2 < bs.length by omega]
  | 3, _ => simp [List.getD, show 4 * k + 3 < bs.length by omega]
  | n + 4, h => omega
set_option maxRecDepth 100000 in
theorem slice_pieceW {w0 : World} {a : Option Addr} {len cap : Nat} {zs : List Int} (h : Rd .u8 w0 (.slice a len cap) zs) (lo hi : Nat) (h1 : lo ≤ hi) (h2 : hi ≤ zs.length) :
    ∃ a' c', Rd .u8 w0 (.slice a' (hi - lo) c') ((zs.drop lo).take (hi - lo)) ∧ ∀ wx, (Instr.slice 45 (.slice a len cap) (some (.int .i64 (lo : Int))) (some (.int .i64 (hi : Int))) none).run Tryz.prog wx = .ok (.slice a' (hi - lo) c') wx := by
  obtain ⟨i0, hi0, hz0, hz1, hz2⟩ := info_parts infoU8
  obtain ⟨a0, cap0, e, hm, hc, hl, hcm⟩ := h
  injection e with e1 e2 e3
  subst e1 e2 e3
  have hlen : ((zs.drop lo).take (hi - lo)).length = hi - lo := by rw [List.length_take, List.length_drop]; omega
  have hrun : ∀ wx, (Instr.slice 45 (.slice a zs.length cap) (some (.int .i64 (lo : Int))) (some (.int .i64 (hi : Int))) none).run Tryz.prog wx = .ok (sliced a lo hi cap 1) wx := fun wx => by
    rw [run_slice_lh (P := Tryz.prog) (w := wx) 45 a zs.length cap (by rw [Tryz.underlying45]; rfl) .i64 .i64 (lo : Int) (hi : Int) (by omega) (by omega) (by omega)]
    simp [sizeOf, typeInfo, show Tryz.prog.elem 45 = 5 from by kernel_rfl, hi0, hz1, Result.andThen]
  refine ⟨_, _, ?_, hrun⟩
  refine ⟨_, _, by rw [hlen], by omega, fun hne => ?_, by rw [hlen]; omega, by omega⟩
  have hp : lo < zs.length := by
    rcases Nat.lt_or_ge lo zs.length with h | h
    · exact h
    · exact absurd (by rw [List.drop_eq_nil_of_le h]; simp) hne
  obtain ⟨b, off, rfl, hb, hcell⟩ := hc (fun e => by rw [e] at hp; simp at hp)
  refine ⟨b, off + lo, ?_, hb, fun i hi2 => ?_⟩
  · rw [if_neg (by omega), Option.map_some, Nat.mul_one, Addr.add_mid]
  · rw [hlen] at hi2
    rw [Nat.add_assoc, hcell (lo + i) (by omega)]
    simp [List.getD, hi2]
set_option maxRecDepth 100000 in
theorem slice_pieceWL {w0 : World} {a : Option Addr} {len cap : Nat} {zs : List Int} (h : Rd .u8 w0 (.slice a len cap) zs) (lo : Nat) (h2 : lo ≤ zs.length) :
    ∃ a' c', Rd .u8 w0 (.slice a' (zs.length - lo) c') (zs.drop lo) ∧ ∀ wx, (Instr.slice 45 (.slice a len cap) (some (.int .i64 (lo : Int))) none none).run Tryz.prog wx = .ok (.slice a' (zs.length - lo) c') wx := by
  obtain ⟨a', c', hr, hrun⟩ := slice_pieceW h lo zs.length h2 (Nat.le_refl _)
  have hl : len = zs.length := by obtain ⟨_, _, e, _⟩ := h; injection e
  obtain ⟨_, _, e0, _, _, hl2, hcm⟩ := h
  injection e0 with e1 e2 e3
  subst e3
  rw [List.take_of_length_le (by rw [List.length_drop]; omega)] at hr
  refine ⟨a', c', hr, fun wx => ?_⟩
  rw [← hrun wx, run_slice_l (P := Tryz.prog) (w := wx) 45 a len cap (by rw [Tryz.underlying45]; rfl) .i64 (lo : Int) (by omega) (by omega), run_slice_lh (P := Tryz.prog) (w := wx) 45 a len cap (by rw [Tryz.underlying45]; rfl) .i64 .i64 (lo : Int) (zs.length : Int) (by omega) (by omega) (by omega)]
  rw [Int.toNat_natCast, hl, Int.toNat_natCast]
end Go.Proofs.YtplieplmhdfndaaGreatDoor
