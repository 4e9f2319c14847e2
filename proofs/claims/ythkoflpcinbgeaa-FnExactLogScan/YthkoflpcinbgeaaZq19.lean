/- DecodeWords, the model's and the program's: both give decW. -/
import Derived.Test.YthkoflpcinbgeaaZq18
import Derived.Test.YthkoflpcinbgeaaZq04
import Derived.Test.YthkoflpcinbgeaaZq01
import Derived.Test.YthkoflpcinbgeaaZq06
namespace Go.Proofs.Ythkoflpcinbgeaa
open Go.RowKit

def wordAt (bs : List Int) (i : Nat) : Int := (unle ((bs.drop (4 * i)).take 4) : Nat)
def decTo (bs : List Int) (n : Nat) : List Int := (List.range n).map (wordAt bs)
def decW (bs : List Int) : List Int := if bs.length = 512 then decTo bs 128 else []
def codeD (bs : List Int) : Int := if bs.length = 512 then 0 else 21
theorem decTo_len (bs : List Int) (n : Nat) : (decTo bs n).length = n := by simp [decTo]
theorem decTo_succ (bs : List Int) (n : Nat) : decTo bs (n + 1) = decTo bs n ++ [wordAt bs n] := by simp [decTo, List.range_succ]
theorem decW_len (bs : List Int) : (decW bs).length ≤ 128 := by unfold decW; split <;> simp [decTo]
theorem take4_lt (bs : List Int) (i : Nat) (h : ∀ z ∈ bs, 0 ≤ z ∧ z < 256) : unle ((bs.drop (4 * i)).take 4) < 4294967296 := by
  have h1 := unle_lt ((bs.drop (4 * i)).take 4) (fun z hz => h z (List.mem_of_mem_drop (List.mem_of_mem_take hz)))
  have h2 : ((bs.drop (4 * i)).take 4).length ≤ 4 := by simp; omega
  have h3 : (256 : Nat) ^ ((bs.drop (4 * i)).take 4).length ≤ 256 ^ 4 := Nat.pow_le_pow_right (by decide) h2
  have h4 : (256 : Nat) ^ 4 = 4294967296 := by decide
  omega
theorem one_i64 (z : Int) : ∀ u ∈ [Value.int .i64 z], u.oneCell' = true := by
  intro u hu
  rw [List.mem_singleton] at hu
  subst hu
  rfl

theorem newReader_any (v : Value) (zs : List Int) (w : World) (h : Rd .u8 w v zs) :
    Calls Try.prog 24 #[v] w fun e w' => e = .returned (.pointer (some ⟨w.heap.size, 0, none⟩)) ∧ Rdr w w' w.heap.size (w.heap.size + 1) true v zs 0 ∧ Below w.heap.size w w' := by
  have H := hide h
  obtain ⟨a, cap, rfl, _⟩ := h
  have HR := hide (show Rdr w (w.alloc (.cells #[.int .i64 21, .nilIface, .slice a zs.length cap, .int .i64 0] 59)) w.heap.size (w.heap.size + 1) true (.slice a zs.length cap) zs 0 ∧ Below w.heap.size w (w.alloc (.cells #[.int .i64 21, .nilIface, .slice a zs.length cap, .int .i64 0] 59)) from by
    have hb : Below w.heap.size w (w.alloc (.cells #[.int .i64 21, .nilIface, .slice a zs.length cap, .int .i64 0] 59)) := (Below.refl _ _).alloc (Nat.le_refl _) _
    exact ⟨⟨⟨by simp, by simp, .nilIface, by simp, .inl ⟨rfl, rfl⟩⟩, by simp, by simp, by simp, hb, rfl, H.out, by omega, by omega, by simp⟩, hb⟩)
  go_enter Try.func24, Try.ntmps24
  go_wp2
  go_ret
  exact ⟨rfl, HR.out⟩

/-- A reader without a fault is kept behind writes to another row. -/
theorem Rdr.grownOk {w0 w w' : World} {b lo : Nat} {dv : Value} {zs : List Int} {pos : Nat} {r : Option Nat} (h : Rdr w0 w b lo true dv zs pos) (hg : w.grownBy w' r) (hne : ∀ k, r = some k → b < k) : Rdr w0 w' b lo true dv zs pos := by
  have hb : w'.heap[b]? = w.heap[b]? := hg.block b h.ck.lt (fun e => by have := hne b e.symm; omega)
  obtain ⟨c1, c2, ev, c3, c4⟩ := h.ck
  have hc : ∀ o, w'.cell? ⟨b, o, none⟩ = w.cell? ⟨b, o, none⟩ := fun o => World.cell?_of_block (a := ⟨b, o, none⟩) hb
  have hf : ∀ o, w'.frozen? ⟨b, o, none⟩ = w.frozen? ⟨b, o, none⟩ := fun o => World.frozen?_of_block (a := ⟨b, o, none⟩) hb
  refine ⟨⟨(hc 0).trans c1, (hf 1).trans c2, ev, (hc 1).trans c3, ?_⟩, (hc 2).trans h.data, (hc 3).trans h.at_, (hf 3).trans h.fr, ?_, h.size, h.rd, h.le, h.lo1, Nat.le_trans h.lo2 hg.size⟩
  · rcases c4 with c4 | ⟨c4, _⟩
    · exact .inl c4
    · cases c4
  · exact h.old.grown hg (Nat.le_of_lt h.ck.lt) (fun k e => Nat.le_of_lt (hne k e))
theorem set_dec (bs : List Int) (k n : Nat) (h : k < n) (z : Value) (hz : z = .int .i64 (wordAt bs k)) :
    ((decTo bs k).map (Value.int .i64) ++ List.replicate (n - k) (Value.int .i64 0)).set k z = (decTo bs (k + 1)).map (Value.int .i64) ++ List.replicate (n - (k + 1)) (Value.int .i64 0) := by
  subst hz
  have e : (decTo bs k).map (Value.int .i64) = ((decTo bs n).map (Value.int .i64)).take k := by
    rw [← List.map_take]
    congr 1
    simp [decTo, ← List.map_take, List.take_range, Nat.min_eq_left (Nat.le_of_lt h)]
  have e2 : (decTo bs (k + 1)).map (Value.int .i64) = ((decTo bs n).map (Value.int .i64)).take (k + 1) := by
    rw [← List.map_take]
    congr 1
    simp [decTo, ← List.map_take, List.take_range, Nat.min_eq_left (show k + 1 ≤ n by omega)]
  rw [e, e2]
  exact set_fill _ _ _ k n h (by simp [decTo]) (by simp [decTo, h])

end Go.Proofs.Ythkoflpcinbgeaa
