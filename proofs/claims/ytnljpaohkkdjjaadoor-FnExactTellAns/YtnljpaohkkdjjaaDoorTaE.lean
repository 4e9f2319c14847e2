/- The program's tellWord. -/
import Derived.Test.YtnljpaohkkdjjaaDoorTaD
namespace Go.Proofs.YtnljpaohkkdjjaaDoor
set_option linter.unusedVariables false
set_option linter.unusedSimpArgs false
open Go.RowKit

def txI (t : List UInt8) : List Int := t.map fun c => (c.toNat : Int)
theorem txI_len (t : List UInt8) : (txI t).length = t.length := by simp [txI]
theorem txI_at {t : List UInt8} {k : Nat} {c : UInt8} (h : t[k]? = some c) : (txI t).getD k 0 = (c.toNat : Int) := by
  rw [List.getD_eq_getElem?_getD]
  simp [txI, h]
/-- A word behind a line, in the making. -/
structure WtI (B : Nat) (w : World) (l t : List UInt8) (v0 : Value) (k : Nat) (v : Value) (wr : World) : Prop where
  ln : Ln B w (l ++ (t.take k).flatMap escL) v wr
  at_ : v.ownBlock = v0.ownBlock ∨ ∃ g, v.ownBlock = some g ∧ w.heap.size ≤ g
  fr : ∀ b, b < w.heap.size → some b ≠ v0.ownBlock → wr.heap[b]? = w.heap[b]?
theorem WtI.step {B : Nat} {w wr w1 w' : World} {l t L : List UInt8} {v0 v v' : Value} {k n m : Nat} {c : UInt8} {xs : List Value} (h : WtI B w l t v0 k v wr) (h1 : Ln B wr L v w1) (hs : ∀ b, b < wr.heap.size → w1.heap[b]? = wr.heap[b]?) (hL : L = l ++ (t.take k).flatMap escL) (hn : n = L.length) (hc : t[k]? = some c) (hxs : xs = Lib.byteCells (escL c) ∧ m = (escL c).length)
    (ho : w'.ownsRow B 5 1 v' (n + m) (Lib.byteCells L ++ xs)) (hg : w1.grownBy w' v.ownBlock) (hp : v'.ownBlock = v.ownBlock ∨ v'.ownBlock = some w1.heap.size) : WtI B w l t v0 (k + 1) v' w' := by
  subst hn
  have hx := Ln.app (h.ln.call h1) hxs ho hg
  have hsz : wr.heap.size ≤ w1.heap.size := h1.bel.size
  refine ⟨?_, ?_, fun b hb hne => ?_⟩
  · rw [take_snocT hc, flat_snoc, ← List.append_assoc, ← hL]
    exact hx
  · rcases hp with e | e
    · rw [e]; exact h.at_
    · exact .inr ⟨_, e, Nat.le_trans h.ln.bel.size hsz⟩
  · have hb2 : b < wr.heap.size := Nat.lt_of_lt_of_le hb h.ln.bel.size
    rw [hg.block b (Nat.lt_of_lt_of_le hb2 hsz) (fun e => ?_), hs b hb2, h.fr b hb hne]
    rcases h.at_ with e2 | ⟨g, e2, hgle⟩
    · exact hne (e.trans e2)
    · rw [e2] at e
      have : b = g := Option.some.inj e
      omega
theorem Ln.self {B : Nat} {w0 w : World} {l : List UInt8} {v : Value} (h : Ln B w0 l v w) : Ln B w l v w := ⟨h.own, Below.refl _ _, Lib.OthersKept.refl _ _ _, h.siz⟩
theorem cell_sameT {w w2 : World} {b o : Nat} (h : w.heap[b]? = w2.heap[b]?) : w.cell? ⟨b, o, none⟩ = w2.cell? ⟨b, o, none⟩ := by
  unfold World.cell?
  simp only [h]
theorem and15 (x : Int) (h0 : 0 ≤ x) (h1 : x < 256) : bits .and .u8 x 15 = x % 16 := by
  show IntKind.u8.wrap ((BitVec.ofInt 8 x &&& BitVec.ofInt 8 15).toNat : Int) = _
  have e2 : (BitVec.ofInt 8 x).toNat = x.toNat := by simp [BitVec.toNat_ofInt]; omega
  have e1 : (BitVec.ofInt 8 15).toNat = 2 ^ 4 - 1 := by decide
  rw [BitVec.toNat_and, e1, e2, Nat.and_two_pow_sub_one_eq_mod]
  have h2 : ((x.toNat % 2 ^ 4 : Nat) : Int) = x % 16 := by omega
  rw [h2]
  have e : (2 : Int) ^ IntKind.u8.bits = 256 := by decide
  simp [IntKind.wrap, IntKind.signed, e]
  omega
set_option maxRecDepth 100000 in
set_option maxHeartbeats 2000000 in
theorem tellWord_any (B : Nat) (v tv : Value) (l t : List UInt8) (w : World) (ho : w.ownsRow B 5 1 v l.length (Lib.byteCells l)) (hB : B ≤ w.heap.size)
    (ht : Rd .u8 w tv (txI t)) (hne : ∀ b off n c, tv = .slice (some ⟨b, off, none⟩) n c → some b ≠ v.ownBlock) (hl : l.length ≤ 10000000000) (htl : t.length ≤ 1048576) :
    Calls Tryd.prog 19 #[v, tv] w fun e w' => ∃ v', e = .returned v' ∧ Ln B w (l ++ wordL t) v' w' := by
  have HL0 := hide (Ln.start ho hB)
  have HT := hide ht
  have HNE := hide hne
  obtain ⟨ta, tc, rfl⟩ : ∃ a cap, tv = .slice a t.length cap := by obtain ⟨a, cap, h1, _⟩ := ht; rw [txI_len] at h1; exact ⟨a, cap, h1⟩
  obtain ⟨va, vc, rfl⟩ := own_shapeT ho
  obtain ⟨i0, hi, hz0, hz1, hz2⟩ := info_parts infoBT
  clear ht hne ho
  obtain ⟨n0, hn0⟩ : ∃ n, n = l.length := ⟨_, rfl⟩
  rw [← hn0] at HL0 hl HNE ⊢
  have HN0 := hide hn0
  clear hn0
  by_cases h0 : t.length = 0
  · have ht0 : t = [] := List.eq_nil_of_length_eq_zero h0
    subst ht0
    clear h0
    go_enter Tryd.func19, Tryd.ntmps19
    go_wp2_with (at_builtin; refine Lib.wpList_append_own_string _ rfl (.tmp 10) (.const (.string ⟨#[45]⟩)) 22 9 rfl B 5 i0 Tryd.underlying22 Tryd.underlying9 hi hz0 hz1 hz2 _ n0 _ rfl (show w.ownsRow B 5 1 (.slice va n0 vc) n0 (Lib.byteCells l) from by have h := HL0.out.own; rw [← HN0.out] at h; exact h) ⟨#[45]⟩ rfl (by show n0 + 1 ≤ maxLen; unfold maxLen; omega) (by show n0 + 1 ≤ _; omega) HL0.out.siz ?_; intro v2 w2 o2 g2 p2; have HR := hide (Ln.app (l2 := [45]) (n := 1) (xs := Lib.byteCells [45]) HL0.out ⟨rfl, rfl⟩ (by rw [← HN0.out]; exact o2) g2); clear o2 g2 p2)
    go_ret
    exact ⟨_, rfl, HR.out⟩
  have hpos : 0 < t.length := by omega
  have HTN := hide (show t ≠ [] from fun e => by rw [e] at h0; exact h0 rfl)
  obtain ⟨bt, ot, ct, et, hbt, _, _, hcell⟩ := HT.out.partsC (by rw [txI_len]; omega)
  injection et with et1 et2 et3
  subst et1 et3
  have HNB := hide (HNE.out bt ot _ _ rfl)
  have HC := hide hcell
  have hd0 : (((t.length : Nat) : Int) == 0) = false := by
    have : ((t.length : Nat) : Int) ≠ 0 := by omega
    simpa using this
  clear h0
  clear hcell et2 HNE HT
  go_enter Tryd.func19, Tryd.ntmps19
  go_wp2
  go_loopw [0, 6, 14] (fun v _ i wr => ∃ k : Nat, k ≤ t.length ∧ i = .int .i64 (k : Int) ∧ Hid (WtI B w l t (.slice va n0 vc) k v wr)) (fun _ _ i _ => t.length - (intOf i).toNat)
  case atStart => exact ⟨0, Nat.zero_le _, rfl, ⟨by simpa using HL0.out, .inl rfl, fun _ _ _ => rfl⟩⟩
  case round =>
    obtain ⟨k, hk, rfl, HW⟩ := hrel
    obtain ⟨L, hL⟩ : ∃ L, L = l ++ (t.take k).flatMap escL := ⟨_, rfl⟩
    have hLb : L.length ≤ 10003145728 := by
      rw [hL, List.length_append, ← HN0.out]
      have h1 := flat_bound t k
      omega
    have HWL := hide (show Ln B w L u0 wr from by rw [hL]; exact HW.out.ln)
    have HLL := hide hL
    clear hL
    obtain ⟨ua, uc, rfl⟩ := HWL.out.shape
    obtain ⟨n, hn⟩ : ∃ n, n = L.length := ⟨_, rfl⟩
    rw [← hn] at hLb HW HWL ⊢
    have HNN := hide hn
    have HO := hide (show wr.ownsRow B 5 1 (.slice ua n uc) n (Lib.byteCells L) from by have h := HWL.out.own; rw [← hn] at h; exact h)
    have HB := hide HWL.out.siz
    clear hn
    by_cases hlt : k < t.length
    · obtain ⟨c, hc⟩ : ∃ x, t[k]? = some x := ⟨_, List.getElem?_eq_getElem hlt⟩
      have hcr : wr.cell? ⟨bt, ot + k, none⟩ = some (.int .u8 (c.toNat : Int)) := by
        rw [← txI_at hc, ← HC.out k (by rw [txI_len]; exact hlt)]
        exact cell_sameT (HW.out.fr bt hbt HNB.out)
      have HCC := hide hc
      have hcb : (c.toNat : Int) < 256 := by have := UInt8.toNat_lt c; omega
      have hc0 : (0 : Int) ≤ c.toNat := by omega
      have HP := hide (plB_cases c _ rfl)
      generalize hzz : (c.toNat : Int) = z at hcb HP hc0 hcr
      have HZ := hide hzz
      clear hc hzz
      rcases HP.out with ⟨hp, h1, h2, h3, h4, h5⟩ | ⟨hp, h⟩
      · have HE := hide (cells_one HZ.out hp)
        have HTY := hide (fun W => told_yes z W h1 h2 h3 h4 h5)
        clear hp HP h3 h4 h5
        go_wp2_with (first | (go_at_call 27; refine (HTY.out _).mono ?_; rintro e w9 ⟨rfl, e9⟩; rw [e9]; clear e9 w9) | (at_builtin; refine wpList_append_own_at _ rfl (.tmp 20) (.tmp 22) 22 rfl B 5 i0 (.int .u8 0) 1 1 Tryd.underlying22 hi hz0 hz1 hz2 rfl (by decide) _ n _ rfl (own_below HO.out ((Below.refl _ _).alloc (Nat.le_refl _) _)) ⟨wr.heap.size, 0, none⟩ 1 1 [.int .u8 z] rfl rfl (one_cell wr _ _) (one_one _) (by unfold maxLen; omega) (by omega) (by have := HB.out; simp; omega) ?_; intro v2 w2 o2 g2 p1 p2; have HV := hide (WtI.step HW.out (HWL.out.self.alloc _) (fun b hb => Below.heap_alloc _ _ b hb) HLL.out HNN.out HCC.out HE.out o2 g2 p2); clear o2 g2 p1 p2))
        go_roundw
        case rel => exact ⟨k + 1, by omega, by go_num, HV⟩
        case measure => simp [intOf]; omega
      · have HE := hide (cells_esc hp)
        have HTN2 := hide (fun W => told_no z W (by simp only [bne_eq_false_iff_eq, bne_iff_ne, ne_eq] at h; omega))
        clear hp HP h
        have HA15 := hide (and15 z hc0 hcb)
        have hq0 : 0 ≤ z / 16 ∧ z / 16 < 16 ∧ 0 ≤ z % 16 ∧ z % 16 < 16 := by omega
        have HX := hide (fun W => And.intro (hex_at W (z / 16) hq0.1 hq0.2.1) (hex_at W (z % 16) hq0.2.2.1 hq0.2.2.2))
        go_wp2_with (go_at_call 27; refine (HTN2.out _).mono ?_; rintro e w9 ⟨rfl, e9⟩; rw [e9]; clear e9 w9)
        refine wp_region_noPanic ?_
        refine wp_region_held_drew (S := fun _ => True) (by kernel_rfl) trivial (fun hH => ?_)
        refine wpAnyH_take (i := 0) (oi := _) (v := .slice ua n uc) rfl (by kernel_rfl) (by kernel_rfl) (by kernel_rfl) (fun _ _ _ h => h) (Or.inl ⟨by rfl, fun w' hw' => by go_simp⟩) hH ?_
        try simp only [Act.put, List.getElem_toArray, List.getElem_cons_zero, List.getElem_cons_succ, List.setIfInBounds_toArray, List.set_cons_zero, List.set_cons_succ]
        refine wpAnyH_take (i := 1) (oi := _) (v := .int .u8 z) rfl (by kernel_rfl) (by kernel_rfl) (by kernel_rfl) (fun _ _ _ h => h) (Or.inl ⟨by rfl, fun w' hw' => by go_simp⟩) hH ?_
        try simp only [Act.put, List.getElem_toArray, List.getElem_cons_zero, List.getElem_cons_succ, List.setIfInBounds_toArray, List.set_cons_zero, List.set_cons_succ]
        refine wpAnyH_take (i := 2) (oi := _) (v := .int .u8 (z / 16)) rfl (by kernel_rfl) (by kernel_rfl) (by kernel_rfl) (fun _ _ _ h => h) (Or.inl ⟨by rfl, fun w' hw' => by go_simp⟩) hH ?_
        try simp only [Act.put, List.getElem_toArray, List.getElem_cons_zero, List.getElem_cons_succ, List.setIfInBounds_toArray, List.set_cons_zero, List.set_cons_succ]
        refine wpAnyH_take (i := 3) (oi := _) (v := .int .u8 ((hxd (z / 16).toNat).toNat : Int)) rfl (by kernel_rfl) (by kernel_rfl) (by kernel_rfl) (fun _ _ _ h => h) (Or.inl ⟨by rfl, fun w' hw' => by have hx := (HX.out w').1; go_simp⟩) hH ?_
        try simp only [Act.put, List.getElem_toArray, List.getElem_cons_zero, List.getElem_cons_succ, List.setIfInBounds_toArray, List.set_cons_zero, List.set_cons_succ]
        refine wpAnyH_take (i := 4) (oi := _) (v := .int .u8 z) rfl (by kernel_rfl) (by kernel_rfl) (by kernel_rfl) (fun _ _ _ h => h) (Or.inl ⟨by rfl, fun w' hw' => by go_simp⟩) hH ?_
        try simp only [Act.put, List.getElem_toArray, List.getElem_cons_zero, List.getElem_cons_succ, List.setIfInBounds_toArray, List.set_cons_zero, List.set_cons_succ]
        refine wpAnyH_take (i := 5) (oi := _) (v := .int .u8 (z % 16)) rfl (by kernel_rfl) (by kernel_rfl) (by kernel_rfl) (fun _ _ _ h => h) (Or.inl ⟨by rfl, fun w' hw' => by have hx := HA15.out; go_simp⟩) hH ?_
        try simp only [Act.put, List.getElem_toArray, List.getElem_cons_zero, List.getElem_cons_succ, List.setIfInBounds_toArray, List.set_cons_zero, List.set_cons_succ]
        refine wpAnyH_take (i := 6) (oi := _) (v := .int .u8 ((hxd (z % 16).toNat).toNat : Int)) rfl (by kernel_rfl) (by kernel_rfl) (by kernel_rfl) (fun _ _ _ h => h) (Or.inl ⟨by rfl, fun w' hw' => by have hx := (HX.out w').2; go_simp⟩) hH ?_
        try simp only [Act.put, List.getElem_toArray, List.getElem_cons_zero, List.getElem_cons_succ, List.setIfInBounds_toArray, List.set_cons_zero, List.set_cons_succ]
        refine wpAnyH_ready (rs := [7]) (by kernel_rfl) (by simp) ?_
        refine AllReadyH.cons (o := _) rfl (fun K hK => ?_) AllReadyH.nil
        go_simp
        refine hK.out _ _ trivial (fun hH4 => ?_)
        clear hK K hH
        try simp only [Act.put, List.getElem_toArray, List.getElem_cons_zero, List.getElem_cons_succ, List.setIfInBounds_toArray, List.set_cons_zero, List.set_cons_succ]
        refine wpAnyH_ready (rs := [8]) (by kernel_rfl) (by simp) ?_
        refine AllReadyH.cons (o := _) rfl (fun K hK => ?_) AllReadyH.nil
        rw [if_pos (by rfl)]
        refine wp_append_own_atT (.tmp 24) (.tmp 31) 22 rfl B 5 i0 (.int .u8 0) 1 1 Tryd.underlying22 hi hz0 hz1 hz2 rfl (by decide) _ n _ rfl (own_drewT HO.out _) ⟨wr.heap.size, 0, none⟩ 3 3 [.int .u8 37, .int .u8 ((hxd (z / 16).toNat).toNat : Int), .int .u8 ((hxd (z % 16).toNat).toNat : Int)] rfl rfl (three_cells wr _ _ _ _) (three_one _ _ _) (by unfold maxLen; omega) (by omega) (by have := HB.out; have h9 := size_drewT wr (.cells #[.int .u8 37, .int .u8 ((hxd (z / 16).toNat).toNat : Int), .int .u8 ((hxd (z % 16).toNat).toNat : Int)] 5); omega) ?_
        intro v2 w2 o2 g2 p2
        refine hK.out _ _ trivial (fun hH6 => ?_)
        clear hK K hH4
        try simp only [Act.put, List.getElem_toArray, List.getElem_cons_zero, List.getElem_cons_succ, List.setIfInBounds_toArray, List.set_cons_zero, List.set_cons_succ]
        refine wpAnyH_take (i := 9) (oi := _) (v := v2) rfl (by kernel_rfl) (by kernel_rfl) (by kernel_rfl) (fun _ _ _ h => h) (Or.inl ⟨by rfl, fun w' hw' => by go_simp⟩) hH6 ?_
        try simp only [Act.put, List.getElem_toArray, List.getElem_cons_zero, List.getElem_cons_succ, List.setIfInBounds_toArray, List.set_cons_zero, List.set_cons_succ]
        refine wpAnyH_done (by kernel_rfl) (NoPanic.normal ?_) _
        clear hH6
        have HV := hide (WtI.step HW.out ((HWL.out.self.alloc _).drew) (fun b hb => Below.heap_alloc _ _ b hb) HLL.out HNN.out HCC.out HE.out o2 g2 p2)
        clear o2 g2 p2
        go_wp2
        go_roundw
        case rel => exact ⟨k + 1, by omega, by go_num, HV⟩
        case measure => simp [intOf]; omega
    · have HF := hide (show L = l ++ wordL t from by
        rw [HLL.out, List.take_of_length_le (by omega)]
        unfold wordL
        rw [if_neg HTN.out])
      go_wp2
      go_ret
      have h := HWL.out
      rw [HF.out] at h
      exact ⟨_, rfl, h⟩
end Go.Proofs.YtnljpaohkkdjjaaDoor
