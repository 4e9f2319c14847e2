/- The program's TreeNeed over an empty tree. The program's numbers.root. -/
import Derived.Test.YtnfgldglpfgmnaaDoorZf47
import Derived.Deep.RegionHeld3
import Derived.Test.YtnfgldglpfgmnaaDoorZf33
import Derived.Test.YtnfgldglpfgmnaaDoorZf43
namespace Go.Proofs.YtnfgldglpfgmnaaDoor
set_option linter.unusedVariables false
set_option linter.unusedSimpArgs false
open Go.RowKit Go.Shelf

theorem RSt.puts {W0 W : World} {b : Nat} {D : RD} (h : RSt W0 W b D) : ∃ pa pc vs, W.cell? ⟨b, 24, none⟩ = some (.slice pa D.P.length pc) ∧ OwnN W W0.heap.size 40 1 (.slice pa D.P.length pc) (D.P.map neP) vs := by
  obtain ⟨C, so, sl, fv, pv, vs, hS⟩ := h
  obtain ⟨pa, pc, rfl⟩ := own_shape hS.puts.row
  rw [List.length_map] at hS
  exact ⟨pa, pc, vs, (hS.now.box.cell 24).trans hS.ps, hS.puts⟩
set_option maxRecDepth 100000 in
set_option maxHeartbeats 4000000 in
theorem treeNeed_any (w : World) (ia ca : Option Addr) (il ic n cc cnt : Nat) (zs cs : List Int) (D : RD)
    (hi : Rd .u8 w (.slice ia il ic) zs) (hz : zs.length ≤ 1048576) (hbd : ∀ z ∈ zs, 0 ≤ z ∧ z < 256) (hsz : szOk zs.length = true) (hR : Rd .u8 w (.slice ca n cc) cs) (hn : n = cs.length) (hcs : cs.length ≤ 262144) (hcnt : cnt = (n + 511) / 512) (hg : ErrT w)
    (hD : D = rD3 (.slice ia il ic) (.slice ca n cc) none cs cnt) (hsh : D.sh = false) (hLn : ∀ l, l < 3 → (D.Ln l).length ≤ 100001) :
    Calls Tryd.prog 10 #[.slice ia il ic, .agg rootZ, .slice ca n cc] w fun e w' => e = .returned (.tuple #[.int .i64 (D.P.length : Int), .int .i64 (cntN D.Ln 3 : Int), .int .i64 0]) ∧ Below w.heap.size w w' := by
  obtain ⟨W1, hW1⟩ : ∃ W1, W1 = w.alloc (.cells rootZ 34) := ⟨_, rfl⟩
  have B1 := hide (show Below w.heap.size w W1 from by rw [hW1]; exact (Below.refl _ _).alloc (Nat.le_refl _) _)
  have K1 := hide (show Blk W1 w.heap.size rootZ 34 from by rw [hW1]; exact Blk.new w _ _)
  have HA := hide (renew_any w W1 ia ca il ic n cc cnt 27 #[] zs cs none B1.out hi hz hbd hsz hR hn hcs hcnt hg rfl (by rw [← hD]; exact hsh))
  have HD := hide hD
  have HL := hide hLn
  have HW1 := hide hW1
  clear hi hz hbd hsz hR hn hcs hcnt hg hD hsh hLn hW1
  go_enter Tryd.func10, Tryd.ntmps10
  go_upto_region 1 with fail
  rw [← HW1.out]
  go_upto_region 4 with (first
    | (refine wpList_load_row rfl 34 _ rfl w.heap.size rfl 34 rootZ (0, 0) _ K1.out Tryd.underlying34 rfl infoRt15 ?_)
    | (go_at_call 26; refine HA.out.mono ?_; rintro e w2 ⟨b, rfl, r2⟩; rw [← HD.out] at r2; have R2 := hide r2; clear r2))
  obtain ⟨pa, pc, vs, c24, hpo⟩ := R2.out.puts
  obtain ⟨pn, hpn⟩ : ∃ pn, pn = D.P.length := ⟨_, rfl⟩
  rw [← hpn] at c24
  have HPN := hide hpn
  have C24 := hide c24
  clear hpo hpn c24
  refine wp_region_noPanic ?_
  refine wp_region_held_drew (S := fun w' => w'.cell? ⟨b, 24, none⟩ = some (.slice pa pn pc)) (by kernel_rfl) C24.out (fun hH => ?_)
  refine wpAnyH_take (i := 0) (oi := _) (v := .pointer (some ⟨b, 0, none⟩)) rfl (by kernel_rfl) (by kernel_rfl) (by kernel_rfl) (fun _ _ _ h => h) (Or.inl ⟨by rfl, fun w' hw' => by go_simp⟩) hH ?_
  try simp only [Act.put, List.getElem_toArray, List.getElem_cons_zero, List.getElem_cons_succ, List.setIfInBounds_toArray, List.set_cons_zero, List.set_cons_succ]
  refine wpAnyH_take (i := 1) (oi := _) (v := .pointer (some ⟨b, 0, none⟩)) rfl (by kernel_rfl) (by kernel_rfl) (by kernel_rfl) (fun _ _ _ h => h) (Or.inl ⟨by rfl, fun w' hw' => by go_simp⟩) hH ?_
  try simp only [Act.put, List.getElem_toArray, List.getElem_cons_zero, List.getElem_cons_succ, List.setIfInBounds_toArray, List.set_cons_zero, List.set_cons_succ]
  refine wpAnyH_take (i := 2) (oi := _) (v := .pointer (some ⟨b, 24, none⟩)) rfl (by kernel_rfl) (by kernel_rfl) (by kernel_rfl) (fun _ _ _ h => h) (Or.inl ⟨by rfl, fun w' hw' => by go_simp⟩) hH ?_
  try simp only [Act.put, List.getElem_toArray, List.getElem_cons_zero, List.getElem_cons_succ, List.setIfInBounds_toArray, List.set_cons_zero, List.set_cons_succ]
  refine wpAnyH_take (i := 3) (oi := _) (v := .slice pa pn pc) rfl (by kernel_rfl) (by kernel_rfl) (by kernel_rfl) (fun _ _ _ h => h) (Or.inl ⟨by rfl, fun w' hw' => by go_simp⟩) hH ?_
  try simp only [Act.put, List.getElem_toArray, List.getElem_cons_zero, List.getElem_cons_succ, List.setIfInBounds_toArray, List.set_cons_zero, List.set_cons_succ]
  refine wpAnyH_take (i := 4) (oi := _) (v := .int .i64 (pn : Int)) rfl (by kernel_rfl) (by kernel_rfl) (by kernel_rfl) (fun _ _ _ h => h) (Or.inl ⟨by rfl, fun w' hw' => by go_simp⟩) hH ?_
  try simp only [Act.put, List.getElem_toArray, List.getElem_cons_zero, List.getElem_cons_succ, List.setIfInBounds_toArray, List.set_cons_zero, List.set_cons_succ]
  refine wpAnyH_take (i := 5) (oi := _) (v := .pointer (some ⟨b, 0, none⟩)) rfl (by kernel_rfl) (by kernel_rfl) (by kernel_rfl) (fun _ _ _ h => h) (Or.inl ⟨by rfl, fun w' hw' => by go_simp⟩) hH ?_
  try simp only [Act.put, List.getElem_toArray, List.getElem_cons_zero, List.getElem_cons_succ, List.setIfInBounds_toArray, List.set_cons_zero, List.set_cons_succ]
  refine wpAnyH_ready (rs := [6]) (by kernel_rfl) (by simp) ?_
  refine AllReadyH.cons (o := _) rfl (fun K hK => ?_) AllReadyH.nil
  go_simp
  obtain ⟨C, so, sl, fv, pv, vs2, hS⟩ := R2.out.below ((Below.refl _ _).drew)
  refine (count_any b C 72 sl D.Ln w.heap.size _ hS.now HL.out).mono ?_
  rintro e w3 ⟨rfl, rfl⟩
  clear hS
  refine hK.out _ _ hH (fun hH => ?_)
  clear hK K
  try simp only [Act.put, List.getElem_toArray, List.getElem_cons_zero, List.getElem_cons_succ, List.setIfInBounds_toArray, List.set_cons_zero, List.set_cons_succ]
  refine wpAnyH_take (i := 7) (oi := _) (v := .int .i64 (pn : Int)) rfl (by kernel_rfl) (by kernel_rfl) (by kernel_rfl) (fun _ _ _ h => h) (Or.inl ⟨by rfl, fun w' hw' => by go_simp⟩) hH ?_
  try simp only [Act.put, List.getElem_toArray, List.getElem_cons_zero, List.getElem_cons_succ, List.setIfInBounds_toArray, List.set_cons_zero, List.set_cons_succ]
  refine wpAnyH_take (i := 8) (oi := _) (v := .int .i64 (cntN D.Ln 3 : Int)) rfl (by kernel_rfl) (by kernel_rfl) (by kernel_rfl) (fun _ _ _ h => h) (Or.inl ⟨by rfl, fun w' hw' => by go_simp⟩) hH ?_
  try simp only [Act.put, List.getElem_toArray, List.getElem_cons_zero, List.getElem_cons_succ, List.setIfInBounds_toArray, List.set_cons_zero, List.set_cons_succ]
  refine wpAnyH_take (i := 9) (oi := _) (v := .int .i64 0) rfl (by kernel_rfl) (by kernel_rfl) (by kernel_rfl) (fun _ _ _ h => h) (Or.inl ⟨by rfl, fun w' hw' => by go_simp⟩) hH ?_
  try simp only [Act.put, List.getElem_toArray, List.getElem_cons_zero, List.getElem_cons_succ, List.setIfInBounds_toArray, List.set_cons_zero, List.set_cons_succ]
  refine wpAnyH_done (by kernel_rfl) (NoPanic.normal ?_) _
  clear hH
  have HB := hide (show Below w.heap.size w w2.drew from by obtain ⟨C, so, sl, fv, pv, vs2, hS⟩ := R2.out; exact hS.low.drew)
  go_wp2
  go_ret3
  exact ⟨by rw [HPN.out]; rfl, HB.out⟩
end Go.Proofs.YtnfgldglpfgmnaaDoor

namespace Go.Proofs.YtnfgldglpfgmnaaDoor
set_option linter.unusedVariables false
set_option linter.unusedSimpArgs false
open Go.RowKit Go.Shelf
attribute [local go_sem] Oper.semAt_some

def numAt (Ls : Nat → List Int) (j : Nat) : Int := (Ls (topL j)).getD (topR j) 0
/-- The cells of a root whose first k pointers are set. -/
def rootC (Ls : Nat → List Int) (n k : Nat) : Array Value := cellsI ((n : Int) :: (List.range 14).map (fun j => if j < k then numAt Ls j else 0))
theorem rootC_size (Ls : Nat → List Int) (n k : Nat) : (rootC Ls n k).size = 15 := by simp [rootC, cellsI_size]
theorem rootC_set (Ls : Nat → List Int) (n k : Nat) (h : k < 14) : (rootC Ls n k).setIfInBounds (1 + k) (.int .i64 (numAt Ls k)) = rootC Ls n (k + 1) := by
  apply Array.ext_getElem?
  intro i
  rw [Array.getElem?_setIfInBounds, rootC_size]
  cases i with
  | zero =>
    rw [if_neg (by omega)]
    simp [rootC, cellsI]
  | succ j =>
    by_cases e : 1 + k = j + 1
    · rw [if_pos e, if_pos (by omega)]
      obtain rfl : k = j := by omega
      simp [rootC, cellsI, h]
    · rw [if_neg e]
      by_cases hj : j < 14
      · simp only [rootC, cellsI, List.getElem?_toArray, List.map_cons, List.getElem?_cons_succ, List.getElem?_map, List.getElem?_range hj, Option.map_some]
        by_cases hjk : j < k
        · rw [if_pos hjk, if_pos (by omega)]
        · rw [if_neg hjk, if_neg (by omega)]
      · simp [rootC, cellsI, hj]
theorem infoRtY : (Tryd.prog.info? 34).map (·.size) = some 15 := by kernel_rfl
/-- Between two spots of root. -/
structure RtI (b : Nat) (Ls : Nat → List Int) (n : Nat) (w : World) (pre : List Nat) (W : World) : Prop where
  le : pre.length ≤ 14
  bp : Blk W w.heap.size #[.pointer (some ⟨b, 20, none⟩)] 107
  br : Blk W (w.heap.size + 1) (cellsI (List.replicate 15 0)) 34
  bx : Blk W (w.heap.size + 1 + 1) (rootC Ls n pre.length) 34
  low : Below w.heap.size w W
  size : w.heap.size + 6 ≤ W.heap.size
theorem RtI.abides {b n z : Nat} {Ls : Nat → List Int} {w : World} (hz : w.heap.size ≤ z) : AbidesZ z (RtI b Ls n w) := by
  intro pre A B row h hg hr
  exact ⟨h.le, blk_abide h.bp hg hr, blk_abide h.br hg hr, blk_abide h.bx hg hr, below_abide h.low hz h.low.size hg hr, Nat.le_trans h.size hg.size⟩
theorem blk_twoY {w : World} {b : Nat} {t : TypeId} {x y : Value} (h : Blk w b #[x, y] t) : w.rangeAt b 0 [x, y] := by
  intro j v hj
  match j, hj with
  | 0, hj => rw [h.cell (0 + 0)]; simpa using hj
  | 1, hj => rw [h.cell (0 + 1)]; simpa using hj
  | k + 2, hj => simp at hj
theorem Kq.setC {n₀ z : Nat} {Ty : TypeId → Prop} {W : World} {g j : Nat} {c : Array Value} {t : TypeId} {v : Value} (h : Blk W g c t) (ht : Ty t) (hn : n₀ ≤ g) : Kq n₀ z Ty W (W.setCell ⟨g, j, none⟩ v) := by
  refine Kq.grown (row := some g) ⟨rfl, rfl, rfl, by simp [World.setCell], fun k hk hne => Below.heap_setCell W ⟨g, j, none⟩ v k (fun e => hne (by rw [e]))⟩ (by have := h.lt; omega) (fun r e => by cases e; exact ⟨hn, c, t, h, ht⟩)
set_option maxRecDepth 100000 in
set_option maxHeartbeats 4000000 in
theorem root_any (b n base : Nat) (C : Array Value) (sl : Nat → Value) (Ls : Nat → List Int) (w : World) (h : NumS w base b 20 C 72 sl Ls) :
    Calls Tryd.prog 32 #[.pointer (some ⟨b, 20, none⟩), .int .i64 (n : Int)] w fun e w' => e = .returned (.agg (rootC Ls n 14)) ∧ Below w.heap.size w w' := by
  have HN := hide h
  obtain ⟨ZR, hZR⟩ : ∃ ZR, ZR = cellsI (List.replicate 15 0) := ⟨_, rfl⟩
  obtain ⟨R0, hR0⟩ : ∃ R0, R0 = rootC Ls n 0 := ⟨_, rfl⟩
  obtain ⟨Wa, hWa⟩ : ∃ Wa, Wa = ((w.alloc (.cells #[.pointer (some ⟨b, 20, none⟩)] 107)).alloc (.cells ZR 34)).alloc (.cells R0 34) := ⟨_, rfl⟩
  have hZe : ZR = #[.int .i64 0, .int .i64 0, .int .i64 0, .int .i64 0, .int .i64 0, .int .i64 0, .int .i64 0, .int .i64 0, .int .i64 0, .int .i64 0, .int .i64 0, .int .i64 0, .int .i64 0, .int .i64 0, .int .i64 0] := by rw [hZR]; rfl
  have hRe : R0 = #[.int .i64 (n : Int), .int .i64 0, .int .i64 0, .int .i64 0, .int .i64 0, .int .i64 0, .int .i64 0, .int .i64 0, .int .i64 0, .int .i64 0, .int .i64 0, .int .i64 0, .int .i64 0, .int .i64 0, .int .i64 0] := by rw [hR0]; rfl
  have sa : Wa.heap.size = w.heap.size + 3 := by rw [hWa]; simp
  have BA := hide (show Below w.heap.size w Wa from by rw [hWa]; exact ((((Below.refl _ _).alloc (Nat.le_refl _) _).alloc (by simp) _).alloc (by simp; omega) _))
  have K0 := hide (show Blk Wa w.heap.size #[.pointer (some ⟨b, 20, none⟩)] 107 from by rw [hWa]; exact ((Blk.new w _ _).alloc _).alloc _)
  have K1 := hide (show Blk Wa (w.heap.size + 1) ZR 34 from by have h := Blk.new (w.alloc (.cells #[.pointer (some ⟨b, 20, none⟩)] 107)) ZR 34; rw [World.size_alloc] at h; rw [hWa]; exact h.alloc _)
  have K2 := hide (show Blk Wa (w.heap.size + 1 + 1) R0 34 from by have h := Blk.new ((w.alloc (.cells #[.pointer (some ⟨b, 20, none⟩)] 107)).alloc (.cells ZR 34)) R0 34; rw [World.size_alloc, World.size_alloc] at h; rw [hWa]; exact h)
  obtain ⟨WL, hWL⟩ : ∃ WL, WL = Wa.alloc (.cells #[.pointer (some ⟨w.heap.size + 1 + 1, 0, none⟩)] 111) := ⟨_, rfl⟩
  have hsL : WL.heap.size = w.heap.size + 4 := by rw [hWL]; simp [sa]
  have BL := hide (show Below Wa.heap.size Wa WL from by rw [hWL]; exact (Below.refl _ _).alloc (Nat.le_refl _) _)
  have HBx := hide (show Blk WL Wa.heap.size #[.pointer (some ⟨w.heap.size + 1 + 1, 0, none⟩)] 111 from by rw [hWL]; exact Blk.new Wa _ _)
  have I0 := hide (show ∀ W', Below WL.heap.size WL W' → WL.heap.size + 2 ≤ W'.heap.size → RtI b Ls n w [] W' from fun W' hb hs' => by
    have hb0 : Below Wa.heap.size Wa W' := BL.out.trans (hb.mono (by omega))
    exact ⟨by simp, K0.out.below hb0 K0.out.lt, by rw [← hZR]; exact K1.out.below hb0 K1.out.lt, by rw [List.length_nil, ← hR0]; exact K2.out.below hb0 K2.out.lt, BA.out.trans (hb0.mono (by omega)), by omega⟩)
  rw [hZe, hRe] at hWa
  have HWa := hide hWa
  have HWL := hide hWL
  have hsa1 : Wa.heap.size ≤ w.heap.size + 3 := by omega
  have hsa2 : w.heap.size + 3 ≤ Wa.heap.size := by omega
  have hsL1 : WL.heap.size ≤ w.heap.size + 4 := by omega
  have hsL2 : w.heap.size + 4 ≤ WL.heap.size := by omega
  clear h hWa hWL sa hsL hZR hR0 hZe hRe
  refine (callsIn_wide (n := 6)).1 ?_
  refine callsIn_of_wp_marks Tryd.func32 rfl trivial ?_ rfl
  simp only [Tryd.ntmps32, List.size_toArray, List.length_cons, List.length_nil, Nat.reduceAdd, Nat.reduceSub, Array.replicate_succ, Array.replicate_zero, List.push_toArray, List.append_toArray, List.nil_append, List.cons_append]
  gi_upto_region 2 with fail
  rw [← HWa.out]
  refine wpIn_wide.2 ?_
  go_wp2_with (first
    | (go_at_call 51; refine (callsIn_wide.1 (tops0_in 0 _ _)).mono ?_; rintro e w' ⟨rfl, rfl⟩))
  gi_wp2
  rw [← HWL.out]
  have hmx : Tryd.prog.follows .mixedOrders = true := by kernel_rfl
  refine wpIn_rangeGoesK (α := Nat) rfl (by decide) (gf := 84) (lb := #[.pointer (some ⟨Wa.heap.size, 0, none⟩)]) rfl trivial (enters_of Tryd.func84 (by kernel_rfl) rfl) (encs := topE0 (w.heap.size + 1 + 1)) (Kp := (Kq w.heap.size (WL.heap.size + 2) (fun t => t = 34))) Kq.trans (fun A o o' ho hc => Kq.put o' (by omega) (by omega) ho hc)
    (Ok := fun pre x _ => x = pre.length ∧ x < 14) (S := fun xs => xs = List.range 14) (Sp := fun _ => True)
    (fun W1 hb1 hs1 => by
      have := tops0_goes 5 Wa.heap.size (w.heap.size + 1 + 1) w.heap.size (WL.heap.size + 2) (fun t => t = 34) (by decide) W1 (HBx.out.below hb1 HBx.out.lt)
      exact this)
    (fun _ => rfl) (RtI b Ls n w) (fun c pre W => False) (RtI.abides (by omega)) (by rintro c pre A B row h hg hr; exact h)
    (fun W' hb hs' => I0.out W' hb (by omega))
    (fun pre x a' Wx => ∃ c, a' = { tmps := #[.pointer (some ⟨b, 20, none⟩), .int .i64 (n : Int), .pointer (some ⟨w.heap.size, 0, none⟩), undef, .pointer (some ⟨w.heap.size + 1, 0, none⟩), .pointer (some ⟨w.heap.size + 1 + 1, 0, none⟩), .pointer (some ⟨c, 0, none⟩), .pointer (some ⟨w.heap.size + 1 + 1, 1 + x, none⟩), .int .i64 (n : Int), .agg #[.int .i64 (n : Int), .int .i64 0, .int .i64 0, .int .i64 0, .int .i64 0, .int .i64 0, .int .i64 0, .int .i64 0, .int .i64 0, .int .i64 0, .int .i64 0, .int .i64 0, .int .i64 0, .int .i64 0, .int .i64 0], .func (.func 84) #[] #[.pointer (some ⟨Wa.heap.size, 0, none⟩)], spotV (topL x) (topR x), .pointer (some ⟨w.heap.size + 1 + 1, 1 + x, none⟩), undef, undef, undef, undef, undef, undef], defers := [] } ∧ Blk Wx c #[.int .i64 (topL x : Int), .int .i64 (topR x : Int)] 113 ∧ RtI b Ls n w pre Wx ∧ x = pre.length ∧ x < 14) ?ax ?assign ?body ?done ?stop
  case ax =>
    rintro pre x a' A B ⟨c, h1, h2, h3, h4⟩ hg hr
    exact ⟨c, h1, blk_bare h2 hg hr, RtI.abides (z := WL.heap.size + 1) (by omega) pre A B _ h3 hg (fun r e => by cases e; exact ⟨Nat.le_refl _, hr⟩), h4⟩
  case assign =>
    rintro l pre x Wx K hI hok hK
    have HKx := hide (And.intro hI (And.intro hok hK))
    clear hI hok hK
    unfold topE0
    gi_wp2
    have bA : Below Wx.heap.size Wx (Wx.alloc (.cells #[.int .i64 (topL x : Int), .int .i64 (topR x : Int)] 113)) := (Below.refl _ _).alloc (Nat.le_refl _) _
    have gA : Wx.grownBy (Wx.alloc (.cells #[.int .i64 (topL x : Int), .int .i64 (topR x : Int)] 113)) none := ⟨bA.os, bA.tape, bA.output, bA.size, fun k hk _ => bA.block k hk⟩
    exact HKx.out.2.2 _ _ (keeps_belowT bA) (Kq.of_below bA (by have := HKx.out.1.size; omega)) ⟨_, rfl, Blk.new _ _ _, RtI.abides (z := w.heap.size) (Nat.le_refl _) pre _ _ none HKx.out.1 gA (fun r e => by cases e), HKx.out.2.1⟩
  case body =>
    rintro l pre x a' Wx ⟨c, rfl, kc, hI, hx, hx14⟩
    have HX := hide (And.intro hI (And.intro kc hx))
    have HRg := hide (blk_twoY kc)
    have c0 := (hI.bp.cell 0).trans (show _ = some (.pointer (some ⟨b, 20, none⟩)) from rfl)
    clear hI kc hx
    gi_wp2_with (first
      | (refine wpListIn_load_mid rfl 113 _ rfl c 0 rfl [.int .i64 (topL x : Int), .int .i64 (topR x : Int)] _ HRg.out Tryd.underlying113 rfl infoSp ?_)
      | (refine ⟨trivial, ?_⟩; gi_at_call 52; refine (CallsIn.inRound l (callsIn_wide.2 (atS_any b 20 (topL x) (topR x) C 72 sl Ls base _ (HN.out.below HX.out.1.low) (by have := topL_le x; omega) (Nat.le_trans (firI_le _ _) (topF_le hx14))))).mono ?_; rintro e w9 ⟨rfl, b9⟩; have H9 := hide b9; clear b9; have k9 : Blk w9 (w.heap.size + 1 + 1) (rootC Ls n pre.length) 34 := HX.out.1.bx.below H9.out HX.out.1.bx.lt; have c9 := k9.cell (1 + x); have f9 := k9.frozen (1 + x); rw [Array.getElem?_eq_getElem (by rw [rootC_size]; omega)] at c9; have K9 := hide k9; clear k9))
    clear c9 f9
    have kF : ∀ z, Kq w.heap.size z (fun t => t = 34) Wx (w9.setCell ⟨w.heap.size + 1 + 1, 1 + x, none⟩ (.int .i64 ((Ls (topL x)).getD (topR x) 0))) := fun z => (Kq.of_below H9.out (by have := HX.out.1.size; omega)).trans (Kq.setC K9.out rfl (by omega))
    have hne1 : w.heap.size ≠ w.heap.size + 1 + 1 := by omega
    have hne2 : w.heap.size + 1 ≠ w.heap.size + 1 + 1 := by omega
    have HNx := hide (show RtI b Ls n w (pre ++ [x]) (w9.setCell ⟨w.heap.size + 1 + 1, 1 + x, none⟩ (.int .i64 ((Ls (topL x)).getD (topR x) 0))) from ⟨by rw [List.length_append, List.length_singleton, ← HX.out.2.2]; omega, (HX.out.1.bp.below H9.out HX.out.1.bp.lt).other _ _ hne1, (HX.out.1.br.below H9.out HX.out.1.br.lt).other _ _ hne2, by
      have := K9.out.set (1 + x) (.int .i64 (numAt Ls x))
      rw [← HX.out.2.2, rootC_set Ls n x hx14] at this
      rw [List.length_append, List.length_singleton, ← HX.out.2.2]
      exact this, HX.out.1.low.trans (kF 0).below, Nat.le_trans HX.out.1.size (kF 0).size⟩)
    exact ⟨(kF _).keepsZ, kF _, HNx.out⟩
  case done =>
    rintro xs Wx hS hI hK
    subst hS
    have hx := hI.bx
    rw [List.length_range] at hx
    have HX := hide (And.intro hx (And.intro hI.br (And.intro hI.low hK)))
    obtain ⟨RF, hRF⟩ : ∃ RF, RF = rootC Ls n 14 := ⟨_, rfl⟩
    rw [← hRF] at HX
    have HRF := hide hRF
    have HIn := hide (show (Tryd.prog.info? 34).map (·.size) = some RF.size from by rw [hRF, rootC_size]; exact infoRtY)
    have HO := hide (show RF.all (·.oneCell') = true from by rw [hRF]; exact i64_one _)
    have HSz := hide (show (cellsI (List.replicate 15 0)).size = RF.size from by rw [hRF, rootC_size]; rfl)
    clear hI hK hx hRF
    gi_upto_region 6 with fail
    refine wpIn_wide.2 ?_
    go_wp2_with (first
      | (refine wpList_load_row rfl 34 _ rfl (w.heap.size + 1 + 1) rfl 34 RF (0, 0) _ HX.out.1 Tryd.underlying34 rfl HIn.out ?_)
      | (refine wpList_store_row rfl 34 _ _ rfl (w.heap.size + 1) RF rfl rfl 34 (cellsI (List.replicate 15 0)) HX.out.2.1 HIn.out HSz.out HO.out ?_))
    gi_wp2
    have hD : (Wx.setRow (w.heap.size + 1) RF).heap[WL.heap.size]? = some (.deferred (some [])) := (setRow_other Wx (w.heap.size + 1) WL.heap.size RF (by omega)).trans HX.out.2.2.2
    have hg : Blk (Wx.setRow (w.heap.size + 1) RF) (w.heap.size + 1) RF 34 := HX.out.2.1.row _
    have hbE : Below w.heap.size w (Wx.setRow (w.heap.size + 1) RF) := below_setRow HX.out.2.2.1 (by omega) _
    refine ⟨by simp, .inl ⟨_, _, rfl, run_takeDeferred hD, ?_⟩⟩
    refine ⟨_, results_cell_row rfl _ _ (w.heap.size + 1) 34 _ (0, 0) _ rfl (blk_put _ hg hD rfl) Tryd.underlying34 rfl HIn.out, by rw [HRF.out], ?_⟩
    exact hbE.trans (belowK_b (w := w) (Nat.le_refl _) _ WL.heap.size _ (.deferred none) (by omega) hD rfl rfl)
  case stop =>
    rintro c pre W _ hf
    exact hf.elim
end Go.Proofs.YtnfgldglpfgmnaaDoor
