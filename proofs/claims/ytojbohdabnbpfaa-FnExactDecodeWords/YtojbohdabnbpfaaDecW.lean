/- DecodeWords, the model's and the program's: both give decW. -/
import Derived.Test.YtojbohdabnbpfaaGet
import Derived.Test.YtojbohdabnbpfaaInts
import Derived.Test.YtojbohdabnbpfaaMarks
import Derived.Test.YtojbohdabnbpfaaCheck
namespace Go.Proofs.Ytojbohdabnbpfaa
open Go.RowKit

def wordAt (bs : List Int) (i : Nat) : Int := (unle ((bs.drop (4 * i)).take 4) : Nat)
def decTo (bs : List Int) (n : Nat) : List Int := (List.range n).map (wordAt bs)
def decW (bs : List Int) : List Int := if bs.length = 512 then decTo bs 128 else []
def codeD (bs : List Int) : Int := if bs.length = 512 then 0 else 21
theorem decTo_len (bs : List Int) (n : Nat) : (decTo bs n).length = n := by simp [decTo]
theorem decTo_succ (bs : List Int) (n : Nat) : decTo bs (n + 1) = decTo bs n ++ [wordAt bs n] := by simp [decTo, List.range_succ]
theorem decW_len (bs : List Int) : (decW bs).length ≤ 128 := by unfold decW; split <;> simp [decTo]
theorem take4_lt (bs : List Int) (i : Nat) (h : ∀ z ∈ bs, 0 ≤ z ∧ z < 256) : unle ((bs.drop (4 * i)).take 4) < 4294967296 := by
  have h1 := unle_lt ((bs.drop (4 * i)).take 4) (fun z hz => h z (List.mem_of_mem_drop (List.mem_of_mem_take hz)))
  have h2 : ((bs.drop (4 * i)).take 4).length ≤ 4 := by simp; omega
  have h3 : (256 : Nat) ^ ((bs.drop (4 * i)).take 4).length ≤ 256 ^ 4 := Nat.pow_le_pow_right (by decide) h2
  have h4 : (256 : Nat) ^ 4 = 4294967296 := by decide
  omega
theorem one_i64 (z : Int) : ∀ u ∈ [Value.int .i64 z], u.oneCell' = true := by
  intro u hu
  rw [List.mem_singleton] at hu
  subst hu
  rfl

set_option maxRecDepth 100000 in
set_option maxHeartbeats 1000000 in
theorem specD_any (v : Value) (bs : List Int) (w : World) (h : Rd .u8 w v bs) (hbd : ∀ z ∈ bs, 0 ≤ z ∧ z < 256) :
    Calls Try.prog 4 #[v] w fun e w' => ∃ v', e = .returned (.tuple #[v', .int .i64 (codeD bs)]) ∧ w'.ownsRow w.heap.size 3 1 v' (decW bs).length ((decW bs).map (Value.int .i64)) ∧ Below w.heap.size w w' := by
  obtain ⟨i0, hi, hz0, hz1, hz2⟩ := info_parts infoI64
  have hm := h.len
  unfold maxLen at hm
  have HB := hide hbd
  clear hbd
  by_cases hlen : bs.length = 512
  · obtain ⟨b, off, cap, rfl, hbw, hcl, hcm, hcell⟩ := h.partsC (by omega)
    unfold maxLen at hcm
    have h0 := own_empty w 3
    have hb0 : Below w.heap.size w (w.alloc (.cells #[] 3)) := (Below.refl _ _).alloc (Nat.le_refl _) _
    have HN := hide hlen
    have HR := hide h
    have HD := hide (show codeD bs = 0 ∧ decW bs = decTo bs 128 from by simp [codeD, decW, hlen])
    rw [hlen] at hcell hcl ⊢
    clear h hlen hm hcell
    go_enter Try.func4, Try.ntmps4
    go_wp2
    go_loopw [4, 5] (fun o i wr => ∃ k p : Nat, k ≤ 128 ∧ p = 4 * k ∧ i = .int .i64 p ∧ wr.ownsRow w.heap.size 3 1 o k ((decTo bs k).map (Value.int .i64)) ∧ Below w.heap.size w wr) (fun _ i _ => 512 - (intOf i).toNat)
    case atStart => exact ⟨0, 0, by omega, rfl, rfl, by simpa [decTo] using h0, hb0⟩
    case round =>
      clear h0 hb0
      obtain ⟨k, p, hk, hp, rfl, hown, hb⟩ := hrel
      have hsz := hb.size
      have HP := hide hp
      have hp2 : p ≤ 4 * k := by omega
      have hp3 : 4 * k ≤ p := by omega
      clear hp
      by_cases hlt : p < 512
      · have HC := hide (show Rd .u8 wr (.slice (some ⟨b, off + p, none⟩) 4 (cap - p)) ((bs.drop p).take 4) from (Rd.cut2 p 4 HR.out (by omega) (by rw [HN.out]; omega)).below hb)
        have HL := hide (show gval ((bs.drop p).take 4) = unle ((bs.drop (4 * k)).take 4) ∧ unle ((bs.drop (4 * k)).take 4) < 4294967296 from by
          have h1 := take4_lt bs k HB.out
          refine ⟨?_, h1⟩
          rw [HP.out, gval_small _ (by omega)])
        have HS := hide (decTo_succ bs k)
        have HO := hide hown
        have hsub : p + 4 - p = 4 := by omega
        clear hown
        go_wp2_with fail
        refine (get_any _ ((bs.drop p).take 4) _ (by first | exact HC.out | (rw [hsub]; exact HC.out)) (by simp; omega) (fun z hz => HB.out z (List.mem_of_mem_drop (List.mem_of_mem_take hz)))).mono ?_
        rintro e w1 ⟨rfl, rfl⟩
        rw [HL.out.1]
        generalize hy : unle ((bs.drop (4 * k)).take 4) = y at HL
        have HY := hide hy
        clear hy
        go_wp2_with (at_builtin; refine wpList_append_own _ rfl (.tmp 14) (.tmp 21) 23 rfl w.heap.size 3 i0 (.int .i64 0) 1 8 Try.underlying23 hi hz0 hz1 hz2 rfl (by decide) _ _ _ rfl (HO.out.alloc _) ⟨wr.heap.size, 0, none⟩ 1 1 [.int .i64 (y : Int)] rfl rfl (cell_one_new _ _ _) (one_i64 _) (by unfold maxLen; omega) (by omega) (by simp; omega) ?_; intro v1 w1 hown1 hgr1 _)
        have HW := hide (show w1.ownsRow w.heap.size 3 1 v1 (k + 1) ((decTo bs (k + 1)).map (Value.int .i64)) ∧ Below w.heap.size w w1 from by
          refine ⟨?_, (hb.alloc hsz _).grown hgr1 (by simp; omega) (fun r h => (HO.out.lt r h).1)⟩
          rw [HS.out, List.map_append, show wordAt bs k = (y : Int) from by rw [← HY.out]; rfl]
          exact hown1)
        clear hown1 hgr1 hb HO
        go_roundw
        case rel => exact ⟨k + 1, p + 4, by omega, by omega, by go_num, HW.out.1, HW.out.2⟩
        case measure => simp [intOf]; omega
      · have hk8 : k = 128 := by omega
        subst hk8
        have HO := hide hown
        clear hown
        go_wp2
        go_ret2
        refine ⟨_, by rw [HD.out.1]; rfl, ?_, hb⟩
        rw [HD.out.2, decTo_len]
        exact HO.out
  · obtain ⟨a, cap, rfl, _, _⟩ := h
    have hq : ((bs.length : Int) == 512) = false := by simp; omega
    have HG := hide (show codeD bs = 21 ∧ decW bs = [] from by simp [codeD, decW, hlen])
    clear hlen
    go_enter Try.func4, Try.ntmps4
    go_wp2
    go_ret2
    exact ⟨_, by rw [HG.out.1]; rfl, by rw [HG.out.2]; exact World.ownsRow_nil _ _ _ _, Below.refl _ _⟩

theorem newReader_any (v : Value) (zs : List Int) (w : World) (h : Rd .u8 w v zs) :
    Calls Try.prog 14 #[v] w fun e w' => e = .returned (.pointer (some ⟨w.heap.size, 0, none⟩)) ∧ Rdr w w' w.heap.size (w.heap.size + 1) true v zs 0 ∧ Below w.heap.size w w' := by
  have H := hide h
  obtain ⟨a, cap, rfl, _⟩ := h
  have HR := hide (show Rdr w (w.alloc (.cells #[.int .i64 21, .nilIface, .slice a zs.length cap, .int .i64 0] 43)) w.heap.size (w.heap.size + 1) true (.slice a zs.length cap) zs 0 ∧ Below w.heap.size w (w.alloc (.cells #[.int .i64 21, .nilIface, .slice a zs.length cap, .int .i64 0] 43)) from by
    have hb : Below w.heap.size w (w.alloc (.cells #[.int .i64 21, .nilIface, .slice a zs.length cap, .int .i64 0] 43)) := (Below.refl _ _).alloc (Nat.le_refl _) _
    exact ⟨⟨⟨by simp, by simp, .nilIface, by simp, .inl ⟨rfl, rfl⟩⟩, by simp, by simp, by simp, hb, rfl, H.out, by omega, by omega, by simp⟩, hb⟩)
  go_enter Try.func14, Try.ntmps14
  go_wp2
  go_ret
  exact ⟨rfl, HR.out⟩

/-- A reader without a fault is kept behind writes to another row. -/
theorem Rdr.grownOk {w0 w w' : World} {b lo : Nat} {dv : Value} {zs : List Int} {pos : Nat} {r : Option Nat} (h : Rdr w0 w b lo true dv zs pos) (hg : w.grownBy w' r) (hne : ∀ k, r = some k → b < k) : Rdr w0 w' b lo true dv zs pos := by
  have hb : w'.heap[b]? = w.heap[b]? := hg.block b h.ck.lt (fun e => by have := hne b e.symm; omega)
  obtain ⟨c1, c2, ev, c3, c4⟩ := h.ck
  have hc : ∀ o, w'.cell? ⟨b, o, none⟩ = w.cell? ⟨b, o, none⟩ := fun o => World.cell?_of_block (a := ⟨b, o, none⟩) hb
  have hf : ∀ o, w'.frozen? ⟨b, o, none⟩ = w.frozen? ⟨b, o, none⟩ := fun o => World.frozen?_of_block (a := ⟨b, o, none⟩) hb
  refine ⟨⟨(hc 0).trans c1, (hf 1).trans c2, ev, (hc 1).trans c3, ?_⟩, (hc 2).trans h.data, (hc 3).trans h.at_, (hf 3).trans h.fr, ?_, h.size, h.rd, h.le, h.lo1, Nat.le_trans h.lo2 hg.size⟩
  · rcases c4 with c4 | ⟨c4, _⟩
    · exact .inl c4
    · cases c4
  · exact h.old.grown hg (Nat.le_of_lt h.ck.lt) (fun k e => Nat.le_of_lt (hne k e))
theorem set_dec (bs : List Int) (k n : Nat) (h : k < n) (z : Value) (hz : z = .int .i64 (wordAt bs k)) :
    ((decTo bs k).map (Value.int .i64) ++ List.replicate (n - k) (Value.int .i64 0)).set k z = (decTo bs (k + 1)).map (Value.int .i64) ++ List.replicate (n - (k + 1)) (Value.int .i64 0) := by
  subst hz
  have e : (decTo bs k).map (Value.int .i64) = ((decTo bs n).map (Value.int .i64)).take k := by
    rw [← List.map_take]
    congr 1
    simp [decTo, ← List.map_take, List.take_range, Nat.min_eq_left (Nat.le_of_lt h)]
  have e2 : (decTo bs (k + 1)).map (Value.int .i64) = ((decTo bs n).map (Value.int .i64)).take (k + 1) := by
    rw [← List.map_take]
    congr 1
    simp [decTo, ← List.map_take, List.take_range, Nat.min_eq_left (show k + 1 ≤ n by omega)]
  rw [e, e2]
  exact set_fill _ _ _ k n h (by simp [decTo]) (by simp [decTo, h])

set_option maxRecDepth 100000 in
set_option maxHeartbeats 1000000 in
theorem wordsOf_any (v : Value) (bs : List Int) (n : Nat) (w : World) (h : Rd .u8 w v bs) (hbd : ∀ z ∈ bs, 0 ≤ z ∧ z < 256) (hn : bs.length = 4 * n) (hn2 : n ≤ 4096) :
    Calls Try.prog 13 #[v] w fun e w' => ∃ v', e = .returned v' ∧ w'.ownsRow w.heap.size 3 1 v' n ((decTo bs n).map (Value.int .i64)) ∧ Below w.heap.size w w' := by
  obtain ⟨i0, hi, hz0, hz1, hz2⟩ := info_parts infoI64
  have hm := h.len
  unfold maxLen at hm
  have HB := hide hbd
  have HR := hide h
  have HN := hide hn
  have HL := hide (show (bs.length : Int) / 4 = (n : Int) from by omega)
  clear hbd
  obtain ⟨a, cap, rfl, _⟩ := h
  generalize hbl : bs.length = bl at *
  have HBL := hide hbl
  have hbl2 : bl ≤ 16384 := by omega
  clear hbl hn
  go_enter Try.func13, Try.ntmps13
  go_wp2_with fail
  refine (newReader_any _ bs _ HR.out).mono ?_
  rintro e w1 ⟨rfl, hr1, hb1⟩
  have H1 := hide (And.intro hr1 hb1)
  have hlt1 := hr1.ck.lt
  clear hr1 hb1
  go_wp2_with (refine wpList_make_full _ rfl _ _ 23 rfl w1.heap.size 3 i0 (.int .i64 0) 1 Try.underlying23 hi hz0 hz1 .i64 .i64 n n n (by rw [← HL.out]; rfl) (by rw [← HL.out]; rfl) rfl rfl (by rw [hz2]; omega) (by unfold maxLen; omega) (Nat.le_refl _) ?_; intro w3 hown3 hgr3; rw [made_one _ _ rfl] at hown3)
  have H3 := hide (H1.out.1.grownOk hgr3 (fun k e => by cases e))
  have hlt3 : w1.heap.size < w3.heap.size := (hown3.lt w1.heap.size rfl).2
  clear hgr3 H1
  go_loopw [14] (fun i wr => ∃ k : Nat, k ≤ n ∧ i = .int .i64 k ∧ w1.heap.size < wr.heap.size ∧ Rdr w wr w.heap.size (w.heap.size + 1) true (.slice a bl cap) bs (4 * k) ∧ wr.ownsRow w1.heap.size 3 1 (.slice (some ⟨w1.heap.size, 0, none⟩) n n) n ((decTo bs k).map (Value.int .i64) ++ List.replicate (n - k) (.int .i64 0))) (fun i _ => n - (intOf i).toNat)
  case atStart => exact ⟨0, by omega, rfl, hlt3, H3.out, by simpa [decTo] using hown3⟩
  case round =>
    clear hown3 H3 hlt3
    obtain ⟨k, hk, rfl, hlt, hr, hown⟩ := hrel
    have HK := hide (And.intro hr hown)
    clear hr hown
    by_cases hk8 : k < n
    · go_wp2_with fail
      refine (number32_any w _ w.heap.size (w.heap.size + 1) true _ bs (4 * k) HK.out.1 (by rw [HBL.out]; omega) HB.out).mono ?_
      rintro e w4 ⟨x, rfl, hg4, hx⟩
      rcases hx with ⟨_, _, hx, hr4⟩ | ⟨hno, _⟩
      · have hs4 := hg4.size
        have ho4 := HK.out.2.kept hg4 (.inr (by simp [Value.ownBlock]; omega))
        have hst := ho4.stored k (.int .i64 (x : Int))
        have hfr := ho4.frozenAt k
        obtain ⟨old, hco⟩ : ∃ u, w4.cell? ⟨w1.heap.size, k, none⟩ = some u := by
          rw [ho4.cellAt k (by omega)]
          exact ⟨_, List.getElem?_eq_getElem (by simp [decTo_len]; omega)⟩
        have HW := hide (show Rdr w (w4.setCell ⟨w1.heap.size, k, none⟩ (.int .i64 (x : Int))) w.heap.size (w.heap.size + 1) true (.slice a bl cap) bs (4 * (k + 1)) ∧ (w4.setCell ⟨w1.heap.size, k, none⟩ (.int .i64 (x : Int))).ownsRow w1.heap.size 3 1 (.slice (some ⟨w1.heap.size, 0, none⟩) n n) n ((decTo bs (k + 1)).map (Value.int .i64) ++ List.replicate (n - (k + 1)) (.int .i64 0)) from by
          refine ⟨?_, ?_⟩
          · rw [show 4 * (k + 1) = 4 * k + 4 from by omega]
            exact hr4.grownOk hst.2 (fun r e => by cases e; omega)
          · rw [← set_dec bs k n hk8 (.int .i64 (x : Int)) (by rw [hx]; rfl)]
            exact hst.1)
        clear hst ho4 hr4 hg4 HK hx
        go_wp2
        go_roundw
        case rel => exact ⟨k + 1, by omega, by go_num, by simp; omega, HW.out.1, HW.out.2⟩
        case measure => simp [intOf]; omega
      · exact absurd ⟨rfl, by rw [HBL.out]; have := HN.out; omega⟩ hno
    · have e8 : k = n := by omega
      subst e8
      go_wp2
      go_ret
      refine ⟨_, rfl, ?_, HK.out.1.old⟩
      have ho := HK.out.2
      rw [Nat.sub_self, List.replicate_zero, List.append_nil] at ho
      exact own_mono ho (Nat.le_of_lt hlt1)

set_option maxRecDepth 100000 in
set_option maxHeartbeats 1000000 in
theorem implD_any (v : Value) (bs : List Int) (w : World) (h : Rd .u8 w v bs) (hbd : ∀ z ∈ bs, 0 ≤ z ∧ z < 256) :
    Calls Try.prog 6 #[v] w fun e w' => ∃ v', e = .returned (.tuple #[v', .int .i64 (codeD bs)]) ∧ w'.ownsRow w.heap.size 3 1 v' (decW bs).length ((decW bs).map (Value.int .i64)) ∧ Below w.heap.size w w' := by
  have hm := h.len
  unfold maxLen at hm
  have HR := hide (And.intro h hbd)
  clear hbd
  obtain ⟨a, cap, rfl, _⟩ := h
  by_cases hlen : bs.length = 512
  · have hq : ((bs.length : Int) != 512) = false := by rw [hlen]; rfl
    have HN := hide hlen
    have HD := hide (show codeD bs = 0 ∧ decW bs = decTo bs 128 from by simp [codeD, decW, hlen])
    clear hlen
    go_enter Try.func6, Try.ntmps6
    go_wp2_with fail
    refine (wordsOf_any _ bs 128 _ HR.out.1 HR.out.2 (by rw [HN.out]) (by omega)).mono ?_
    rintro e w1 ⟨v1, rfl, ho, hb⟩
    go_wp2
    go_ret2
    refine ⟨_, by rw [HD.out.1]; rfl, ?_, hb⟩
    rw [HD.out.2, decTo_len]
    exact ho
  · have hq : ((bs.length : Int) != 512) = true := by simp; omega
    have HG := hide (show codeD bs = 21 ∧ decW bs = [] from by simp [codeD, decW, hlen])
    clear hlen
    go_enter Try.func6, Try.ntmps6
    go_wp2
    go_ret2
    exact ⟨_, by rw [HG.out.1]; rfl, by rw [HG.out.2]; exact World.ownsRow_nil _ _ _ _, Below.refl _ _⟩
end Go.Proofs.Ytojbohdabnbpfaa
