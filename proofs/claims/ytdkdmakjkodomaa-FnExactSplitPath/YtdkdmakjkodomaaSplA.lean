/- The model's l07Cut, l07Long and SplitPath. -/
import Derived.Test.YtdkdmakjkodomaaSplM
import Derived.Test.YtdkdmakjkodomaaBytes
import Derived.Laws.AppendOwn
import Derived.Laws.Strings2
import Derived.Deep.MidRow
import Derived.Maps.AppendAt
namespace Go.Proofs.Ytdkdmakjkodomaa
set_option linter.unusedVariables false
set_option linter.unusedSimpArgs false
open Go.RowKit

theorem infoStr : (Try.prog.info? 9).map (fun i => (i.zero, i.size, i.bytes)) = some (some (.string ⟨#[]⟩), 1, 16) := by kernel_rfl
theorem empty_ownS (w : World) (e : TypeId) : (w.alloc (.cells #[] e)).ownsRow w.heap.size e 1 (.slice (some ⟨w.heap.size, 0, none⟩) 0 0) 0 [] := by
  have h := World.ownsRow_lit (base := w.heap.size) (e := e) (size := 1) w #[] 0 (Nat.le_refl _) (by simp) rfl
  simpa using h
theorem one_str (s : ByteArray) : ∀ v ∈ [Value.string s], v.oneCell' = true := by intro v hv; simp at hv; subst hv; rfl
theorem get_at_k (s : ByteArray) (k : Nat) (h : k < s.size) : (s.get! k = 47) ↔ ((s[k].toNat : Int) = 47) := by
  rw [Chk.get_k s k h, Spl.u8_47]
  omega
theorem isEmpty_size (s : ByteArray) : s.toList.isEmpty = decide (s.size = 0) := by
  obtain ⟨⟨l⟩⟩ := s
  rw [show (ByteArray.mk { toList := l }) = ByteArray.mk l.toArray from rfl, ByteArray.toList_mk]
  cases l <;> simp [ByteArray.size]
theorem slice1 (s : ByteArray) (k : Nat) (h : k < s.size) (W : World) : (Instr.slice 9 (.string s) (some (.int .i64 (k : Int))) (some (.int .i64 ((k : Int) + 1))) none).run Try.prog W = .ok (.string (s.extract k (k + 1))) W := by
  have e := run_slice_string (P := Try.prog) W 9 s .i64 .i64 (k : Int) ((k : Int) + 1) Try.underlying9 (by omega) (by omega) (by omega)
  rw [e, Int.toNat_natCast, show ((k : Int) + 1).toNat = k + 1 by omega]

set_option maxHeartbeats 1000000 in
theorem specCut_any (s : ByteArray) (w : World) (hs : s.size ≤ 512) :
    Calls Try.prog 28 #[.string s] w fun e w' => ∃ v, e = .returned v ∧ w'.ownsRow w.heap.size 9 1 v (Spl.names s).length ((Spl.names s).map Value.string) ∧ Below w.heap.size w w' := by
  obtain ⟨i0, hi, hz0, hz1, hz2⟩ := info_parts infoStr
  have H0 := hide (show (w.alloc (.cells #[] 9)).ownsRow w.heap.size 9 1 (.slice (some ⟨w.heap.size, 0, none⟩) 0 0) (Spl.outs s 0).length ((Spl.outs s 0).map Value.string) ∧ Below w.heap.size w (w.alloc (.cells #[] 9)) from ⟨empty_ownS _ _, (Below.refl _ _).alloc (Nat.le_refl _) _⟩)
  go_enter Try.func28, Try.ntmps28
  go_wp2
  go_loopw [3, 4, 5] (fun o p i wr => ∃ k : Nat, k ≤ s.size ∧ i = .int .i64 k ∧ p = .string (Spl.part s k) ∧ wr.ownsRow w.heap.size 9 1 o (Spl.outs s k).length ((Spl.outs s k).map Value.string) ∧ Below w.heap.size w wr) (fun _ _ i _ => s.size - (intOf i).toNat)
  case atStart => exact ⟨0, by omega, rfl, rfl, H0.out.1, H0.out.2⟩
  case round =>
    obtain ⟨k, hk, rfl, rfl, ho, hb⟩ := hrel
    have HO := hide (And.intro ho hb)
    have hsz := hb.size
    have hol : (Spl.outs s k).length ≤ 512 := by have := Spl.outs_len s k; simp [Spl.outs]; omega
    clear ho hb H0
    by_cases hlt : k < s.size
    · by_cases hsl : s.get! k = 47
      · have hq : ((s[k].toNat : Int) != 47) = false := by have := (get_at_k s k hlt).1 hsl; simp [this]
        have HPs := hide (Spl.part_slash s k hsl)
        by_cases hp : (Spl.part s k).size = 0
        · have he : (Spl.part s k).toList.isEmpty = true := by rw [isEmpty_size]; simp [hp]
          have HS := hide (Spl.outs_slash_none s k hk hsl hp)
          clear hp hsl
          go_wp2_with fail
          go_roundw
          case rel => exact ⟨k + 1, by omega, by go_num, by rw [HPs.out], by rw [HS.out]; exact HO.out.1, HO.out.2⟩
          case measure => simp [intOf]; omega
        · have he : (Spl.part s k).toList.isEmpty = false := by rw [isEmpty_size]; simp [hp]
          have HS := hide (Spl.outs_slash_some s k hk hsl hp)
          clear hp hsl
          go_wp2_with (at_builtin; refine wpList_append_own _ rfl (.tmp 26) (.tmp 28) 36 rfl w.heap.size 9 i0 (.string ⟨#[]⟩) 1 16 Try.underlying36 hi hz0 hz1 hz2 rfl (by decide) _ _ _ rfl (HO.out.1.alloc _) ⟨wr.heap.size, 0, none⟩ 1 1 [.string (Spl.part s k)] rfl rfl (cell_one_new _ _ _) (one_str _) (by unfold maxLen; omega) (by omega) (by simp; omega) ?_; intro v1 w1 hown1 hgr1 _)
          have HW := hide (show w1.ownsRow w.heap.size 9 1 v1 (Spl.outs s (k + 1)).length ((Spl.outs s (k + 1)).map Value.string) ∧ Below w.heap.size w w1 from by
            refine ⟨?_, (HO.out.2.alloc hsz _).grown hgr1 (by simp; omega) (fun r h => (HO.out.1.lt r h).1)⟩
            rw [HS.out, List.map_append, List.length_append]
            exact hown1)
          clear hown1 hgr1 HO
          go_wp2_with fail
          go_roundw
          case rel => exact ⟨k + 1, by omega, by go_num, by rw [HPs.out], HW.out.1, HW.out.2⟩
          case measure => simp [intOf]; omega
      · have hq : ((s[k].toNat : Int) != 47) = true := by have := mt (get_at_k s k hlt).2 hsl; simp; omega
        have hcut := slice1 s k hlt
        have hcat : ¬ 9223372036854775807 < (Spl.part s k).size + (min (k + 1) s.size - k) := by have := Spl.part_size s k hk; omega
        have HPm := hide (And.intro (Spl.part_more s k hlt hsl) (Spl.outs_more s k hsl))
        clear hsl
        go_wp2_with fail
        go_roundw
        case rel => exact ⟨k + 1, by omega, by go_num, by rw [HPm.out.1], by rw [HPm.out.2]; exact HO.out.1, HO.out.2⟩
        case measure => simp [intOf]; omega
    · obtain rfl : k = s.size := by omega
      by_cases hp : (Spl.part s s.size).size = 0
      · have he : (Spl.part s s.size).toList.isEmpty = true := by rw [isEmpty_size]; simp [hp]
        have HS := hide (Spl.names_none s hp)
        clear hp
        go_wp2_with fail
        go_ret
        exact ⟨_, rfl, by rw [HS.out]; exact HO.out.1, HO.out.2⟩
      · have he : (Spl.part s s.size).toList.isEmpty = false := by rw [isEmpty_size]; simp [hp]
        have HS := hide (Spl.names_some s hp)
        clear hp
        go_wp2_with (at_builtin; refine wpList_append_own _ rfl (.tmp 32) (.tmp 34) 36 rfl w.heap.size 9 i0 (.string ⟨#[]⟩) 1 16 Try.underlying36 hi hz0 hz1 hz2 rfl (by decide) _ _ _ rfl (HO.out.1.alloc _) ⟨wr.heap.size, 0, none⟩ 1 1 [.string (Spl.part s s.size)] rfl rfl (cell_one_new _ _ _) (one_str _) (by unfold maxLen; omega) (by omega) (by simp; omega) ?_; intro v1 w1 hown1 hgr1 _)
        have HW := hide (show w1.ownsRow w.heap.size 9 1 v1 (Spl.names s).length ((Spl.names s).map Value.string) ∧ Below w.heap.size w w1 from by
          refine ⟨?_, (HO.out.2.alloc hsz _).grown hgr1 (by simp; omega) (fun r h => (HO.out.1.lt r h).1)⟩
          rw [HS.out, List.map_append, List.length_append]
          exact hown1)
        clear hown1 hgr1 HO
        go_wp2_with fail
        go_ret
        exact ⟨_, rfl, HW.out.1, HW.out.2⟩

/-- A row of strings, read. -/
def RdS (w : World) (v : Value) (L : List ByteArray) : Prop := ∃ a cap, v = .slice a L.length cap ∧ L.length ≤ cap ∧ cap ≤ maxLen ∧ (0 < L.length → ∃ b, a = some ⟨b, 0, none⟩ ∧ b < w.heap.size ∧ ∀ i, i < L.length → w.cell? ⟨b, i, none⟩ = some (.string (L.getD i ⟨#[]⟩)))
theorem RdS.own {w : World} {base : Nat} {v : Value} {n : Nat} {L : List ByteArray} (h : w.ownsRow base 9 1 v n (L.map Value.string)) : RdS w v L := by
  have hn : n = L.length := by have := h.1; simp at this; exact this.symm
  subst hn
  have h' := h
  rcases h.2 with ⟨rfl, h0⟩ | ⟨g, cap, cur, rfl, hb, hg, hc1, hc2, rest⟩
  · exact ⟨none, 0, by rw [h0], by omega, by unfold maxLen; omega, fun hp => by omega⟩
  · refine ⟨_, cap, rfl, hc1, hc2, fun hp => ⟨g, rfl, (h'.lt g rfl).2, fun i hi => ?_⟩⟩
    have := h'.cells rfl i (.string (L.getD i ⟨#[]⟩)) (by rw [List.getElem?_map, List.getD_eq_getElem?_getD, List.getElem?_eq_getElem hi]; rfl)
    rw [Addr.add_mid, Nat.zero_add] at this
    exact this
theorem RdS.below {w w' : World} {v : Value} {L : List ByteArray} (h : RdS w v L) (hb : Below w.heap.size w w') : RdS w' v L := by
  obtain ⟨a, cap, h1, h2, h3, h4⟩ := h
  refine ⟨a, cap, h1, h2, h3, fun hp => ?_⟩
  obtain ⟨b, e, hlt, hc⟩ := h4 hp
  exact ⟨b, e, Nat.lt_of_lt_of_le hlt hb.size, fun i hi => (hb.cell (p := ⟨b, i, none⟩) hlt).trans (hc i hi)⟩

theorem longN_no (L : List ByteArray) (h0 : ¬ 40 < L.length) (h : ∀ j, j < L.length → ¬ 26 < (L.getD j ⟨#[]⟩).size) : Spl.longN L = false := by
  unfold Spl.longN
  simp only [Bool.or_eq_false_iff, decide_eq_false_iff_not, List.any_eq_false, decide_eq_true_eq]
  refine ⟨h0, fun x hx => ?_⟩
  obtain ⟨j, hj, rfl⟩ := List.getElem_of_mem hx
  have := h j hj
  rw [List.getD_eq_getElem?_getD, List.getElem?_eq_getElem hj] at this
  exact this
theorem longN_yes (L : List ByteArray) (k : Nat) (hk : k < L.length) (h : 26 < (L.getD k ⟨#[]⟩).size) : Spl.longN L = true := by
  unfold Spl.longN
  rw [Bool.or_eq_true]
  right
  rw [List.any_eq_true]
  refine ⟨L[k], List.getElem_mem _, ?_⟩
  rw [List.getD_eq_getElem?_getD, List.getElem?_eq_getElem hk] at h
  exact decide_eq_true h

theorem specLong_any (v : Value) (L : List ByteArray) (w : World) (h : RdS w v L) (hl : L.length ≤ 1000) :
    Calls Try.prog 29 #[v] w fun e w' => e = .returned (.bool (Spl.longN L)) ∧ w' = w := by
  obtain ⟨a, cap, rfl, hc1, hc2, hcell⟩ := h
  have hcap : cap ≤ 9223372036854775807 := hc2
  clear hc2
  by_cases h40 : 40 < L.length
  · have HR := hide (show Spl.longN L = true from by simp [Spl.longN, h40])
    clear hcell
    go_enter Try.func29, Try.ntmps29
    go_wp2
    go_ret
    exact ⟨ret_bool HR.out.symm, rfl⟩
  · have HC := hide hcell
    clear hcell
    go_enter Try.func29, Try.ntmps29
    go_wp2
    go_loop [10] (fun i => ∃ k : Nat, k ≤ L.length ∧ i = .int .i64 k ∧ ∀ j, j < k → ¬ 26 < (L.getD j ⟨#[]⟩).size) (fun i => L.length - (intOf i).toNat)
    case atStart => exact ⟨0, by omega, rfl, fun j hj => by omega⟩
    case round =>
      obtain ⟨k, hk, rfl, hall⟩ := hrel
      have HA := hide hall
      clear hall
      by_cases hlt : k < L.length
      · obtain ⟨b, rfl, hbw, hcc⟩ := HC.out (by omega)
        have c0 := hcc k hlt
        have HL := hide (longN_yes L k hlt)
        have HM := hide (show ¬ 26 < (L.getD k ⟨#[]⟩).size → ∀ j, j < k + 1 → ¬ 26 < (L.getD j ⟨#[]⟩).size from fun h j hj => by rcases Nat.lt_succ_iff_lt_or_eq.1 hj with h1 | h1; exact HA.out j h1; subst h1; exact h)
        generalize L.getD k ⟨#[]⟩ = x at c0 HL HM
        clear hcc
        by_cases h26 : 26 < x.size
        · have HR := hide (HL.out h26)
          go_wp2
          go_ret
          exact ⟨ret_bool HR.out.symm, rfl⟩
        · have HR := hide (HM.out h26)
          go_wp2
          go_round
          case rel => exact ⟨k + 1, by omega, by go_num, HR.out⟩
          case measure => simp [intOf]; omega
      · obtain rfl : k = L.length := by omega
        have HR := hide (longN_no L h40 HA.out)
        go_wp2
        go_ret
        exact ⟨ret_bool HR.out.symm, rfl⟩
end Go.Proofs.Ytdkdmakjkodomaa
