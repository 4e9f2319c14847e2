/- The model's look at a root, whole: l02Root; its bytes: l02RootBytes; EncodeRoot. The model's look at an inode: l02Inode. -/
import Derived.Test.YtfkmnmopkblopaaGreatDoorZs07
import Derived.Deep.MidRow
import Derived.BigFrame
namespace Go.Proofs.YtfkmnmopkblopaaGreatDoor
set_option linter.unusedVariables false
set_option linter.unusedSimpArgs false
open Go.RowKit

def lst (i : Nat) : Int := if i = 13 then 140 else i
def okAt (B : Int) (i : Nat) (x : Int) : Bool := ptrB x 2048 && (decide (x = 0) || decide (lst i < B))
def allR (s : Int) (pts : List Int) (n : Nat) : Bool := (List.range n).all fun i => okAt ((s + 511) / 512) i (pts.getD i 0)
def rightR (s : Int) (ds : List Int) (p q : Int) : Bool := (decide (0 ≤ s) && decide (s ≤ 262144)) && allR s (ds ++ [p, q]) 14
theorem allR_succ (s : Int) (pts : List Int) (n : Nat) : allR s pts (n + 1) = (allR s pts n && okAt ((s + 511) / 512) n (pts.getD n 0)) := by simp [allR, List.range_succ]
theorem allR_bad (s : Int) (pts : List Int) (n k : Nat) (hk : k < n) (h : okAt ((s + 511) / 512) k (pts.getD k 0) = false) : allR s pts n = false := by
  unfold allR
  rw [List.all_eq_false]
  exact ⟨k, by simpa using hk, by rw [h]; simp⟩

theorem okT (s : Int) (k : Nat) (z L : Int) (hp : ptrB z 2048 = true) (hL : lst k = L) (h : (z != 0) = false ∨ L < (s + 512 - 1) / 512) : okAt ((s + 511) / 512) k z = true := by
  unfold okAt
  rw [hp, hL]
  have e : s + 512 - 1 = s + 511 := by omega
  rw [e] at h
  rcases h with h | h
  · simp at h; simp [h]
  · simp [h]
theorem okT0 (s : Int) (k : Nat) (z : Int) (hp : ptrB z 2048 = true) (h : z = 0) : okAt ((s + 511) / 512) k z = true := by
  unfold okAt
  rw [hp]
  simp [h]
theorem okF (s : Int) (k : Nat) (z L : Int) (hL : lst k = L) (h : (z != 0) = true ∧ (s + 512 - 1) / 512 ≤ L) : okAt ((s + 511) / 512) k z = false := by
  unfold okAt
  have e : s + 512 - 1 = s + 511 := by omega
  rw [e] at h
  rw [hL]
  have h1 : ¬ z = 0 := by simpa using h.1
  have h2 : ¬ L < (s + 511) / 512 := by omega
  simp [h1, h2]
theorem lst_cases (k : Nat) : (((k : Int) == 12) = true ∧ ((k : Int) == 13) = false ∧ lst k = 12) ∨ (((k : Int) == 12) = false ∧ ((k : Int) == 13) = true ∧ lst k = 140) ∨ (((k : Int) == 12) = false ∧ ((k : Int) == 13) = false ∧ lst k = (k : Int)) := by
  by_cases h12 : k = 12
  · subst h12; exact .inl ⟨rfl, rfl, rfl⟩
  · by_cases h13 : k = 13
    · subst h13; exact .inr (.inl ⟨rfl, rfl, rfl⟩)
    · refine .inr (.inr ⟨by simp; omega, by simp; omega, ?_⟩)
      unfold lst
      rw [if_neg h13]

set_option maxRecDepth 100000 in
set_option maxHeartbeats 2000000 in
theorem l02Root_any (s : Int) (ds : List Int) (p q : Int) (w : World) (hd : ds.length = 12) :
    Calls Tryz.prog 37 #[.agg (cellsI (rootI s ds p q))] w fun e w' => e = .returned (.bool (rightR s ds p q)) ∧ Below w.heap.size w w' := by
  have HD := hide hd
  have hb0 : Below w.heap.size w (w.alloc (.cells (cellsI (rootI s ds p q)) 34)) := (Below.refl _ _).alloc (Nat.le_refl _) _
  have c0 : (w.alloc (.cells (cellsI (rootI s ds p q)) 34)).cell? ⟨w.heap.size, 0, none⟩ = some (.int .i64 s) := by
    rw [(Blk.new w _ _).cell 0]; rfl
  have HZ := hide (show (cellsI (rootI s ds p q)).size = 15 from by rw [cellsI_size]; exact rootI_len s ds p q HD.out)
  clear hd
  by_cases h1 : 0 ≤ s
  · by_cases h2 : s ≤ 262144
    · have HR := hide (show rightR s ds p q = allR s (ds ++ [p, q]) 14 from by unfold rightR; simp [h1, h2])
      have HL := hide (show (ds ++ [p, q]).length = 14 from by simp [HD.out])
      go_enter Tryz.func37, Tryz.ntmps37
      go_wp2_with (first | (refine wpList_load_row rfl 34 _ rfl w.heap.size rfl 34 (cellsI (rootI s ds p q)) (0, 0) _ (Blk.new w _ _) Tryz.underlying34 rfl (by rw [HZ.out]; exact info15) ?_) | (go_at_call 61; fail))
      refine (pointers_any s ds p q _ HD.out).mono ?_
      rintro e w1 ⟨v1, rfl, o1, b1⟩
      obtain ⟨bd, off, cap, rfl, hbw, _, _, hcell⟩ := (Rd.own o1).partsC (by rw [HL.out]; omega)
      rw [HL.out] at hcell ⊢
      have HB := hide (hb0.trans (b1.mono hb0.size))
      generalize ds ++ [p, q] = pts at hcell HR
      clear o1 b1 hb0 c0
      go_wp2
      go_loop [23] (fun i => ∃ k : Nat, k ≤ 14 ∧ i = .int .i64 k ∧ allR s pts k = true) (fun i => 14 - (intOf i).toNat)
      case atStart => exact ⟨0, by omega, rfl, rfl⟩
      case round =>
        obtain ⟨k, hk, rfl, hall⟩ := hrel
        have HA := hide hall
        clear hall
        by_cases hlt : k < 14
        · have cz := hcell k hlt
          have HS := hide (show allR s pts (k + 1) = (allR s pts k && okAt ((s + 511) / 512) k (pts.getD k 0)) ∧ (okAt ((s + 511) / 512) k (pts.getD k 0) = false → allR s pts 14 = false) from ⟨allR_succ s pts k, allR_bad s pts 14 k hlt⟩)
          clear hcell
          generalize pts.getD k 0 = z at cz HS
          have hok : okAt ((s + 511) / 512) k z = (ptrB z 2048 && (decide (z = 0) || decide (lst k < (s + 511) / 512))) := rfl
          cases hpt : ptrB z 2048 with
          | false =>
            have HF := hide (HS.out.2 (by rw [hok, hpt]; rfl))
            clear hok
            go_wp2_with (go_at_call 62; refine (pointer_any z _).mono ?_; rintro e w' ⟨rfl, rfl⟩; rw [hpt])
            all_goals go_ret
            all_goals exact ⟨ret_bool (by rw [HR.out, HF.out]), HB.out⟩
          | true =>
            have HP := hide hpt
            clear hok
            rcases lst_cases k with ⟨e12, e13, hL⟩ | ⟨e12, e13, hL⟩ | ⟨e12, e13, hL⟩
            all_goals
              have HLk := hide hL
              clear hL
              go_wp2_with (go_at_call 62; refine (pointer_any z _).mono ?_; rintro e w' ⟨rfl, rfl⟩; rw [hpt])
              all_goals first
                | (have HF := HS.out.2 (okF s k z _ HLk.out ‹_›)
                   go_ret
                   exact ⟨ret_bool (by rw [HR.out, HF]), HB.out⟩)
                | (have hT : okAt ((s + 511) / 512) k z = true := by first | exact okT0 s k z HP.out ‹_› | exact okT s k z _ HP.out HLk.out ‹_›
                   go_round
                   case rel => exact ⟨k + 1, by omega, by go_num, by rw [HS.out.1, HA.out, hT]; rfl⟩
                   case measure => simp [intOf]; omega)
        · have e14 : k = 14 := by omega
          subst e14
          go_wp2
          go_ret
          exact ⟨ret_bool (by rw [HR.out, HA.out]), HB.out⟩
    · have HR := hide (show rightR s ds p q = false from by unfold rightR; simp [h2])
      go_enter Tryz.func37, Tryz.ntmps37
      go_wp2
      go_ret
      exact ⟨ret_bool (by rw [HR.out]), hb0⟩
  · have HR := hide (show rightR s ds p q = false from by unfold rightR; simp [h1])
    go_enter Tryz.func37, Tryz.ntmps37
    go_wp2
    go_ret
    exact ⟨ret_bool (by rw [HR.out]), hb0⟩
end Go.Proofs.YtfkmnmopkblopaaGreatDoor

namespace Go.Proofs.YtfkmnmopkblopaaGreatDoor
set_option linter.unusedVariables false
set_option linter.unusedSimpArgs false
open Go.RowKit

theorem zeroB_root (s : Int) (ds : List Int) (p q : Int) (hd : ds.length = 12) : zeroB (rootI s ds p q) = ((s == 0) && (zeroB ds && ((p == 0) && ((q == 0) && true)))) := by
  simp [zeroB, rootI, List.all_append]
set_option maxRecDepth 100000 in
theorem eqRoot_zero (w : World) (d : Nat) (s : Int) (ds : List Int) (p q : Int) (hd : ds.length = 12) :
    (Op.equalIn (d + 3) 34 (.agg (cellsI (rootI s ds p q))) (.agg (cellsI (List.replicate 15 0)))).run Tryz.prog w = .ok (zeroB (rootI s ds p q)) w := by
  obtain ⟨i12, hi12⟩ := info_of_underlying Tryz.underlying32
  have e1 : (cellsI (rootI s ds p q)).extract 1 (1 + Tryz.prog.cellsOf 32) = cellsI ds := by
    rw [cellsT_12]
    match ds, hd with | [_, _, _, _, _, _, _, _, _, _, _, _], _ => rfl
  have e2 : (cellsI (List.replicate 15 0)).extract 1 (1 + Tryz.prog.cellsOf 32) = cellsI (List.replicate 12 0) := by
    rw [cellsT_12]; rfl
  have h := eqArr_zero w d ds hd
  rw [← e1, ← e2] at h
  rw [run_equalIn_agg w (d + 2) _ _ _ structRoot heldRoot]
  unfold Program.fieldsOf
  rw [Tryz.underlying34, zeroB_root s ds p q hd]
  exact eqFields_cons w (by decide) (part_one w Tryz.underlying3 (v := .int .i64 s) rfl) (part_one w Tryz.underlying3 (v := .int .i64 0) rfl) (run_equalIn_int w (d + 1) _ .i64 .i64 _ _ Tryz.underlying3)
    (eqFields_cons w (by decide) (part_many w Tryz.underlying32 rfl hi12 _ _) (part_many w Tryz.underlying32 rfl hi12 _ _) h
    (eqFields_cons w (by decide) (part_one w Tryz.underlying3 (v := .int .i64 p) (rootI_get13 s ds p q hd)) (part_one w Tryz.underlying3 (v := .int .i64 0) rfl) (run_equalIn_int w (d + 1) _ .i64 .i64 _ _ Tryz.underlying3)
    (eqFields_cons w (by decide) (part_one w Tryz.underlying3 (v := .int .i64 q) (rootI_get14 s ds p q hd)) (part_one w Tryz.underlying3 (v := .int .i64 0) rfl) (run_equalIn_int w (d + 1) _ .i64 .i64 _ _ Tryz.underlying3)
    (by simp [Op.eqFields]))))
theorem wpList_load_midG {P : Program} {ops : Array Oper} {rest : List Oper} {op : Oper} {a : Act} {w : World} {Q : Exit → Act → World → Prop} (hw : Region.wanted op (yielded ops a.tmps) = true) (ty : TypeId) (x : Operand) (ho : op.op = .load ty x)
    (b o : Nat) (hx : a.eval x = .pointer (some ⟨b, o, none⟩)) (cs : List Value) (d : TypeDesc) (hc : w.rangeAt b o cs)
    (hu : P.underlying ty = some d) (hd : d.isRow = true) (hi : (P.info? ty).map (·.size) = some cs.length)
    (h : wpList P ops Q rest (a.put op.dst (.agg cs.toArray)) w) : wpList P ops Q (op :: rest) a w :=
  Go.BigFrame.wpList_want hw fun _ hK => wp_load_mid ty x ho b o hx cs d hc hu hd hi (hK _ _ h)

def wi (x lo hi : Int) : Bool := decide (lo ≤ x) && decide (x ≤ hi)
theorem wi_true {x lo hi : Int} (h : wi x lo hi = true) : lo ≤ x ∧ x ≤ hi := by simpa [wi] using h
theorem l02Within_any (x lo hi : Int) (w : World) : Calls Tryz.prog 35 #[.int .i64 x, .int .i64 lo, .int .i64 hi] w fun e w' => e = .returned (.bool (wi x lo hi)) ∧ w = w' := by
  by_cases h1 : lo ≤ x
  · have HR := hide (show wi x lo hi = decide (x ≤ hi) from by simp [wi, h1])
    go_enter Tryz.func35, Tryz.ntmps35
    go_wp2
    go_ret
    exact ⟨ret_bool (by rw [HR.out]), rfl⟩
  · have HR := hide (show wi x lo hi = false from by simp [wi, h1])
    have hq : decide (lo ≤ x) = false := by simp [h1]
    go_enter Tryz.func35, Tryz.ntmps35
    go_wp2
    go_ret
    exact ⟨ret_bool (by rw [HR.out]), rfl⟩

/-- An inode other than the empty one is right. -/
def parB (k0 k5 : Int) : Bool := if k0 = 2 then wi k5 1 1000 else (k5 == 0)
def fieldsB (k0 k1 k2 k3 k4 k5 k6 k7 k8 : Int) : Bool := wi k0 1 3 && wi k1 1 1000 && wi k2 0 4095 && wi k3 0 65535 && wi k4 0 65535 && parB k0 k5 && wi k6 1 1099511627776 && wi k7 1 1099511627776 && wi k8 1 1099511627776
def rightIno (k0 k1 k2 k3 k4 k5 k6 k7 k8 s : Int) (ds : List Int) (p q : Int) : Bool := zeroB (inoI [k0, k1, k2, k3, k4, k5, k6, k7, k8] s ds p q) || (fieldsB k0 k1 k2 k3 k4 k5 k6 k7 k8 && rightR s ds p q)

end Go.Proofs.YtfkmnmopkblopaaGreatDoor
