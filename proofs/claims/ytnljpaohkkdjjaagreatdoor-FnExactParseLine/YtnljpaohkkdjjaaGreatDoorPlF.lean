/- The model's cutting of a line (l15Cut). -/
import Derived.Test.YtnljpaohkkdjjaaGreatDoorPlB
import Derived.Test.YtnljpaohkkdjjaaGreatDoorTaB
namespace Go.Proofs.YtnljpaohkkdjjaaGreatDoor
set_option linter.unusedVariables false
set_option linter.unusedSimpArgs false
open Go.RowKit

/-- Bytes cut at each c. -/
def cutL (c : UInt8) : List UInt8 → List (List UInt8)
  | [] => [[]]
  | x :: l => if x = c then [] :: cutL c l else
    match cutL c l with
    | h :: t => (x :: h) :: t
    | [] => [[x]]
theorem cut_hit (c : UInt8) : ∀ (l : List UInt8) (m : Nat), (∀ j x, j < m → l[j]? = some x → x ≠ c) → l[m]? = some c → cutL c l = l.take m :: cutL c (l.drop (m + 1))
  | [], m, _, h => by simp at h
  | x :: l, 0, _, h => by
    have e : x = c := by simpa using h
    simp [cutL, e]
  | x :: l, m + 1, hn, h => by
    have hx : x ≠ c := hn 0 x (by omega) rfl
    have ih := cut_hit c l m (fun j y hj hy => hn (j + 1) y (by omega) (by simpa using hy)) (by simpa using h)
    simp only [cutL, if_neg hx, ih]
    rfl
theorem cut_end (c : UInt8) : ∀ (l : List UInt8), (∀ (j : Nat) (x : UInt8), l[j]? = some x → x ≠ c) → cutL c l = [l]
  | [], _ => rfl
  | x :: l, hn => by
    have hx : x ≠ c := hn 0 x rfl
    have ih := cut_end c l (fun j y hy => hn (j + 1) y (by simpa using hy))
    simp only [cutL, if_neg hx, ih]
theorem cut_len (c : UInt8) : ∀ l : List UInt8, (cutL c l).length ≤ l.length + 1
  | [] => by simp [cutL]
  | x :: l => by
    have ih := cut_len c l
    unfold cutL
    split
    · simp; omega
    · split
      · rename_i h t e; rw [e] at ih; simp at ih ⊢; omega
      · simp
theorem infoST : (Tryz.prog.info? 9).map (fun i => (i.zero, i.size, i.bytes)) = some (some (.string ⟨#[]⟩), 1, 16) := by kernel_rfl
theorem one_strT (s : ByteArray) : ∀ v ∈ [Value.string s], v.oneCell' = true := by intro v hv; simp at hv; subst hv; rfl
theorem ext_mk (s : ByteArray) (a b : Nat) (hb : b ≤ s.size) : s.extract a b = mk ((s.data.toList.drop a).take (b - a)) := by
  apply ByteArray.ext
  rw [ByteArray.data_extract]
  apply Array.ext'
  rw [Array.toList_extract, List.extract_eq_take_drop]
  simp [mk]
/-- A line in the midst of being cut: what is cut off, from where, and how far it is looked at. -/
structure CtI (c : UInt8) (l : List UInt8) (w : World) (f k : Nat) (P : List (List UInt8)) (v : Value) (wr : World) : Prop where
  own : wr.ownsRow w.heap.size 9 1 v P.length (P.map fun x => Value.string (mk x))
  bel : Below w.heap.size w wr
  cut : cutL c l = P ++ cutL c (l.drop f)
  le : f ≤ k
  cnt : P.length ≤ k
  none_ : ∀ j x, f ≤ j → j < k → l[j]? = some x → x ≠ c
theorem ct_skip {c : UInt8} {l : List UInt8} {w wr : World} {f k : Nat} {P : List (List UInt8)} {v : Value} {x : UInt8} (h : CtI c l w f k P v wr) (hx : l[k]? = some x) (hn : x ≠ c) : CtI c l w f (k + 1) P v wr :=
  ⟨h.own, h.bel, h.cut, by have := h.le; omega, by have := h.cnt; omega, fun j y h1 h2 hy => by
    by_cases e : j = k
    · subst e; rw [hx] at hy; rw [← Option.some.inj hy]; exact hn
    · exact h.none_ j y h1 (by omega) hy⟩
theorem ct_hit {c : UInt8} {l : List UInt8} {w wr w' : World} {f k n : Nat} {P : List (List UInt8)} {v v' : Value} {o : Obj} (h : CtI c l w f k P v wr) (hx : l[k]? = some c) (hn : n = P.length)
    (ho : w'.ownsRow w.heap.size 9 1 v' (n + 1) ((P.map fun x => Value.string (mk x)) ++ [.string (mk ((l.drop f).take (k - f)))])) (hg : (wr.alloc o).grownBy w' v.ownBlock) : CtI c l w (k + 1) (k + 1) (P ++ [(l.drop f).take (k - f)]) v' w' := by
  subst hn
  have hle := h.le
  refine ⟨?_, (h.bel.alloc h.bel.size o).grown hg (by have := h.bel.size; simp; omega) (fun r hr => (h.own.lt r hr).1), ?_, Nat.le_refl _, by have := h.cnt; simp; omega, fun j x h1 h2 => by omega⟩
  · rw [List.length_append, List.map_append]
    exact ho
  · rw [h.cut, cut_hit c (l.drop f) (k - f) (fun j x hj hy => h.none_ (f + j) x (by omega) (by omega) (by rwa [List.getElem?_drop] at hy)) (by rw [List.getElem?_drop, show f + (k - f) = k by omega]; exact hx), List.drop_drop, show f + (k - f + 1) = k + 1 by omega]
    simp
theorem ct_last {c : UInt8} {l : List UInt8} {w wr : World} {f k : Nat} {P : List (List UInt8)} {v : Value} (h : CtI c l w f k P v wr) (hk : l.length ≤ k) : cutL c l = P ++ [l.drop f] := by
  rw [h.cut, cut_end c (l.drop f) (fun j x hy => by
    rw [List.getElem?_drop] at hy
    have := (List.getElem?_eq_some_iff.1 hy).1
    exact h.none_ (f + j) x (by omega) (by omega) hy)]
set_option maxRecDepth 100000 in
set_option maxHeartbeats 2000000 in
theorem cut_any (s : ByteArray) (c : UInt8) (w : World) (hs : s.size ≤ 1048576) :
    Calls Tryz.prog 20 #[.string s, .int .u8 (c.toNat : Int)] w fun e w' => ∃ v, e = .returned v ∧ w'.ownsRow w.heap.size 9 1 v (cutL c s.data.toList).length ((cutL c s.data.toList).map fun x => Value.string (mk x)) ∧ Below w.heap.size w w' := by
  have HLL := hide (show s.data.toList.length = s.size from rfl)
  obtain ⟨i0, hi, hz0, hz1, hz2⟩ := info_parts infoST
  obtain ⟨cz, hcz⟩ : ∃ z : Int, z = (c.toNat : Int) := ⟨_, rfl⟩
  rw [← hcz]
  have HCZ := hide hcz
  clear hcz
  go_enter Tryz.func20, Tryz.ntmps20
  go_wp2
  go_loopw [5, 6, 7] (fun v i j wr => ∃ (f k : Nat) (P : List (List UInt8)), k ≤ s.size ∧ f ≤ k ∧ P.length ≤ k ∧ i = .int .i64 (f : Int) ∧ j = .int .i64 (k : Int) ∧ Hid (CtI c s.data.toList w f k P v wr)) (fun _ _ j _ => s.size - (intOf j).toNat)
  case atStart => exact ⟨0, 0, [], Nat.zero_le _, Nat.le_refl _, by simp, rfl, rfl, ⟨own_emptyT w _ _, (Below.refl _ _).alloc (Nat.le_refl _) _, by simp, Nat.le_refl _, by simp, fun j x h1 h2 => by omega⟩⟩
  case round =>
    obtain ⟨f, k, P, hk, hfk, hpk, rfl, rfl, HC⟩ := hrel
    obtain ⟨n, hn⟩ : ∃ n : Nat, n = P.length := ⟨_, rfl⟩
    have HO := hide (show wr.ownsRow w.heap.size 9 1 u5 n (P.map fun x => Value.string (mk x)) from by rw [hn]; exact HC.out.own)
    have HN := hide hn
    have hnk : n ≤ k := by omega
    have HB := hide HC.out.bel.size
    clear hn hpk
    obtain ⟨va, vc, rfl⟩ := own_shapeT HO.out
    by_cases hlt : k < s.size
    · have HX := hide (byte_at s k hlt)
      generalize hxz : s[k] = x at HX
      by_cases hxc : x = c
      · have hq : ((x.toNat : Int) == cz) = true := by rw [hxc, HCZ.out]; simp
        have HXC := hide (show s.data.toList[k]? = some c from by rw [← hxc]; exact HX.out)
        have HE := hide (ext_mk s f k (by omega))
        clear hxc
        go_wp2_with (at_builtin; refine wpList_append_own _ rfl (.tmp 20) (.tmp 25) 30 rfl w.heap.size 9 i0 (.string ⟨#[]⟩) 1 16 Tryz.underlying30 hi hz0 hz1 hz2 rfl (by decide) _ n _ rfl (own_below HO.out ((Below.refl _ _).alloc (Nat.le_refl _) _)) ⟨wr.heap.size, 0, none⟩ 1 1 [.string (s.extract f k)] rfl rfl (one_cell wr _ _) (one_strT _) (by unfold maxLen; omega) (by omega) (by have := HB.out; simp; omega) ?_; intro v2 w2 o2 g2 p2; have HV := hide (ct_hit HC.out HXC.out HN.out (by rw [← HE.out]; exact o2) g2); clear o2 g2 p2)
        go_roundw
        case rel => exact ⟨k + 1, k + 1, _, by omega, Nat.le_refl _, HV.out.cnt, by go_num, by go_num, HV⟩
        case measure => simp [intOf]; omega
      · have hq : ((x.toNat : Int) == cz) = false := by
          rw [beq_eq_false_iff_ne, HCZ.out]
          intro e
          exact hxc (UInt8.toNat_inj.1 (by omega))
        have HV := hide (ct_skip HC.out HX.out hxc)
        clear hxc
        go_wp2_with fail
        go_roundw
        case rel => exact ⟨f, k + 1, P, by omega, by omega, HV.out.cnt, rfl, by go_num, HV⟩
        case measure => simp [intOf]; omega
    · have HE := hide (show s.extract f s.size = mk (s.data.toList.drop f) from by rw [ext_mk s f s.size (Nat.le_refl _), List.take_of_length_le (by rw [List.length_drop, HLL.out]; exact Nat.le_refl _)])
      have HF := hide (ct_last HC.out (by rw [HLL.out]; omega))
      go_wp2_with (at_builtin; refine wpList_append_own _ rfl (.tmp 29) (.tmp 33) 30 rfl w.heap.size 9 i0 (.string ⟨#[]⟩) 1 16 Tryz.underlying30 hi hz0 hz1 hz2 rfl (by decide) _ n _ rfl (own_below HO.out ((Below.refl _ _).alloc (Nat.le_refl _) _)) ⟨wr.heap.size, 0, none⟩ 1 1 [.string (s.extract f s.size)] rfl rfl (one_cell wr _ _) (one_strT _) (by unfold maxLen; omega) (by omega) (by have := HB.out; simp; omega) ?_; intro v2 w2 o2 g2 p2; have B2 := hide ((HC.out.bel.alloc HC.out.bel.size (.cells #[.string (s.extract f s.size)] 9)).grown g2 (by have := HB.out; simp; omega) (fun r hr => (HO.out.lt r hr).1)); have O2 := hide o2; clear o2 g2 p2)
      go_ret
      refine ⟨_, rfl, ?_, B2.out⟩
      have h := O2.out
      rw [HE.out, HN.out] at h
      rw [HF.out, List.length_append, List.map_append]
      exact h
end Go.Proofs.YtnljpaohkkdjjaaGreatDoor
