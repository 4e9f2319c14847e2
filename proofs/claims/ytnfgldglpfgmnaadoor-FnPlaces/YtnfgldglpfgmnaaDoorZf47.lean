/- The program's renew over an empty tree, walked. -/
import Derived.Test.YtnfgldglpfgmnaaDoorZf45
namespace Go.Proofs.YtnfgldglpfgmnaaDoor
set_option linter.unusedVariables false
set_option linter.unusedSimpArgs false
open Go.RowKit Go.Shelf

theorem infoRt15 : (Tryd.prog.info? 34).map (·.size) = some 15 := by kernel_rfl
theorem infoNm3 : (Tryd.prog.info? 69).map (·.size) = some 3 := by kernel_rfl
/-- The beginning of a renewal in memory. -/
theorem rSt_new (W0 W : World) (b : Nat) (iv cv : Value) (a0 : Option Addr) (q0 : Nat) (a1 : Option Addr) (q1 : Nat) (a2 : Option Addr) (q2 : Nat) (fv : Value) (st : Option (List Int)) (hl : Below W0.heap.size W0 W) (hlo : W0.heap.size ≤ b)
    (hb : Blk W b (renZ iv cv (.slice a0 0 q0) (.slice a1 0 q1) (.slice a2 0 q2) fv) 72)
    (hr : W.ownsRow W0.heap.size 3 1 (.slice a0 0 q0) 0 [] ∧ W.ownsRow W0.heap.size 3 1 (.slice a1 0 q1) 0 [] ∧ W.ownsRow W0.heap.size 3 1 (.slice a2 0 q2) 0 [])
    (ha : ∀ l m, l < 3 → m < 3 → l ≠ m → ((fun l => if l = 0 then Value.slice a0 0 q0 else if l = 1 then .slice a1 0 q1 else .slice a2 0 q2) l).ownBlock = none ∨ ((fun l => if l = 0 then Value.slice a0 0 q0 else if l = 1 then .slice a1 0 q1 else .slice a2 0 q2) l).ownBlock ≠ ((fun l => if l = 0 then Value.slice a0 0 q0 else if l = 1 then .slice a1 0 q1 else .slice a2 0 q2) m).ownBlock)
    (hs : Sup W0 W fv st) : RSt W0 W b (rD0 iv cv st) := by
  refine ⟨_, fun l => if l = 0 then Value.slice a0 0 q0 else if l = 1 then .slice a1 0 q1 else .slice a2 0 q2, fun _ => .slice none 0 0, fv, .slice none 0 0, [], ⟨rfl, rfl, fun i hi => ?_, rfl, ⟨hb, fun l hl => ?_, fun l hl => ?_, ha⟩, ⟨hb, fun l hl => ?_, fun l hl => World.ownsRow_nil _ _ _ _, fun l m _ _ _ => .inl rfl⟩, fun l m _ _ => ?_, rfl, hs, rfl, OwnN.nil _ _ _ _, rfl, hlo, hl⟩⟩
  · match i, hi with
    | 0, _ => rfl
    | 1, _ => rfl
    | 2, _ => rfl
    | 3, _ => rfl
    | 4, _ => rfl
    | 5, _ => rfl
    | 6, _ => rfl
    | 7, _ => rfl
    | 8, _ => rfl
    | 9, _ => rfl
    | 10, _ => rfl
    | 11, _ => rfl
    | 12, _ => rfl
    | 13, _ => rfl
    | 14, _ => rfl
    | 15, _ => rfl
    | k + 16, h => exact absurd h (by omega)
  · match l, hl with
    | 0, _ => rfl
    | 1, _ => rfl
    | 2, _ => rfl
  · match l, hl with
    | 0, _ => exact hr.1
    | 1, _ => exact hr.2.1
    | 2, _ => exact hr.2.2
  · match l, hl with
    | 0, _ => rfl
    | 1, _ => rfl
    | 2, _ => rfl
  · generalize ((fun l => if l = 0 then Value.slice a0 0 q0 else if l = 1 then .slice a1 0 q1 else .slice a2 0 q2) l).ownBlock = o
    cases o with
    | none => exact .inl rfl
    | some g => exact .inr (by intro e; cases e)
set_option maxRecDepth 100000 in
set_option maxHeartbeats 4000000 in
theorem renew_any (W0 w : World) (ia ca : Option Addr) (il ic n cc cnt ff : Nat) (lb : Array Value) (zs cs : List Int) (st : Option (List Int))
    (hb : Below W0.heap.size W0 w) (hi : Rd .u8 W0 (.slice ia il ic) zs) (hz : zs.length ≤ 1048576) (hbd : ∀ z ∈ zs, 0 ≤ z ∧ z < 256) (hsz : szOk zs.length = true) (hR : Rd .u8 W0 (.slice ca n cc) cs) (hn : n = cs.length) (hcs : cs.length ≤ 262144) (hcnt : cnt = (n + 511) / 512) (hg : ErrT W0) (hsup : Sup W0 w (.func (.func ff) #[] lb) st)
    (hsh : (rD3 (.slice ia il ic) (.slice ca n cc) st cs cnt).sh = false) :
    Calls Tryd.prog 26 #[.slice ia il ic, .agg rootZ, .slice ca n cc, .func (.func ff) #[] lb] w fun e w' => ∃ b, e = .returned (.tuple #[.pointer (some ⟨b, 0, none⟩), .nilIface]) ∧ RSt W0 w' b (rD3 (.slice ia il ic) (.slice ca n cc) st cs cnt) := by
  obtain ⟨iv, hiv⟩ : ∃ iv, iv = Value.slice ia il ic := ⟨_, rfl⟩
  have hc : cnt ≤ 512 := by omega
  obtain ⟨W1, hW1⟩ : ∃ W1, W1 = w.alloc (.cells rootZ 34) := ⟨_, rfl⟩
  have B1 := hide (show Below w.heap.size w W1 from by rw [hW1]; exact (Below.refl _ _).alloc (Nat.le_refl _) _)
  have K1 := hide (show Blk W1 w.heap.size rootZ 34 from by rw [hW1]; exact Blk.new w _ _)
  have HA := hide (And.intro hb (And.intro hi (And.intro hz (And.intro hbd (And.intro hsz (And.intro hR (And.intro hn (And.intro hcs (And.intro hcnt (And.intro hg (And.intro hsup hsh)))))))))))
  have L1 := hide (show Below W0.heap.size W0 W1 from hb.trans (B1.out.mono hb.size))
  have HW1 := hide hW1
  have hnI : ¬ (262144 : Int) < (n : Int) := by omega
  have hw0 := hb.size
  clear hb hi hz hbd hsz hR hn hcs hcnt hg hsup hsh hW1 hiv
  go_enter Tryd.func26, Tryd.ntmps26
  go_upto_region 1 with fail
  rw [← HW1.out]
  go_upto_region 2 with (first
    | (refine wpList_load_row rfl 34 _ rfl w.heap.size rfl 34 rootZ (0, 0) _ K1.out Tryd.underlying34 rfl infoRt15 ?_)
    | (go_at_call 41; refine (openZ_any ia il ic zs _ (HA.out.2.1.below L1.out) HA.out.2.2.1 HA.out.2.2.2.2.1).mono ?_; rintro e w2 ⟨rfl, b2⟩; have B2 := hide b2; clear b2))
  obtain ⟨W3, hW3⟩ : ∃ W3, W3 = w2.alloc (.cells (treeZ (.slice ia il ic)) 67) := ⟨_, rfl⟩
  have B3 := hide (show Below w2.heap.size w2 W3 from by rw [hW3]; exact (Below.refl _ _).alloc (Nat.le_refl _) _)
  have K3 := hide (show Blk W3 w2.heap.size (treeZ (.slice ia il ic)) 67 from by rw [hW3]; exact Blk.new w2 _ _)
  have hs2 : w.heap.size ≤ w2.heap.size := Nat.le_trans B1.out.size B2.out.size
  have B3w := hide (show Below w.heap.size w W3 from (B1.out.trans (B2.out.mono B1.out.size)).trans (B3.out.mono hs2))
  have L3 := hide (show Below W0.heap.size W0 W3 from HA.out.1.trans (B3w.out.mono hw0))
  rw [← hW3]
  clear hW3
  go_upto_region 7 with (first
    | (refine wpList_load_row rfl 67 _ rfl w2.heap.size rfl 67 (treeZ (.slice ia il ic)) (0, 0) _ K3.out Tryd.underlying67 rfl infoTrR ?_)
    | (go_at_call 45; refine (numZ_any (.slice ia il ic) zs _ (HA.out.2.1.below L3.out) HA.out.2.2.1 HA.out.2.2.2.1).mono ?_; rintro e w4 ⟨a0, q0, a1, q1, a2, q2, rfl, r4, ap4, b4⟩; have R4 := hide (And.intro r4 (And.intro ap4 b4)); clear r4 ap4 b4))
  obtain ⟨W5, hW5⟩ : ∃ W5, W5 = w4.alloc (.cells #[.slice a0 0 q0, .slice a1 0 q1, .slice a2 0 q2] 69) := ⟨_, rfl⟩
  have B5 := hide (show Below w4.heap.size w4 W5 from by rw [hW5]; exact (Below.refl _ _).alloc (Nat.le_refl _) _)
  have K5 := hide (show Blk W5 w4.heap.size #[.slice a0 0 q0, .slice a1 0 q1, .slice a2 0 q2] 69 from by rw [hW5]; exact Blk.new w4 _ _)
  have B35 := hide (show Below W3.heap.size W3 W5 from R4.out.2.2.trans (B5.out.mono R4.out.2.2.size))
  have T5 := hide (K3.out.below B35.out K3.out.lt)
  have B5w := hide (show Below w.heap.size w W5 from B3w.out.trans (B35.out.mono B3w.out.size))
  rw [← hW5]
  clear hW5
  have hBu := built_ren ia il ic ca n cc a0 0 q0 a1 0 q1 a2 0 q2 ff lb
  obtain ⟨TZ, hTZ⟩ : ∃ TZ, TZ = treeZ (Value.slice ia il ic) := ⟨_, rfl⟩
  obtain ⟨NZ, hNZ⟩ : ∃ NZ : Array Value, NZ = #[.slice a0 0 q0, .slice a1 0 q1, .slice a2 0 q2] := ⟨_, rfl⟩
  obtain ⟨RZ, hRZ⟩ : ∃ RZ, RZ = renZ (.slice ia il ic) (.slice ca n cc) (.slice a0 0 q0) (.slice a1 0 q1) (.slice a2 0 q2) (.func (.func ff) #[] lb) := ⟨_, rfl⟩
  rw [← hTZ, ← hNZ, ← hRZ] at hBu
  rw [← hTZ] at T5 ⊢
  rw [← hNZ] at K5 ⊢
  have HInT := hide (show (Tryd.prog.info? 67).map (·.size) = some TZ.size from by rw [hTZ]; exact infoTrR)
  have HInN := hide (show (Tryd.prog.info? 69).map (·.size) = some NZ.size from by rw [hNZ]; exact infoNm3)
  have HBu := hide hBu
  have HRZ := hide hRZ
  clear hBu hTZ hNZ hRZ
  go_upto_region 10 with (first
    | (refine wpList_load_row rfl 67 _ rfl w2.heap.size rfl 67 TZ (0, 0) _ T5.out Tryd.underlying67 rfl HInT.out ?_)
    | (refine wpList_load_row rfl 69 _ rfl w4.heap.size rfl 69 NZ (0, 0) _ K5.out Tryd.underlying69 rfl HInN.out ?_)
    | (refine wpList_buildTo rfl 72 _ rfl (some 41) rfl RZ (by simp only [List.map_toArray, List.map_cons, List.map_nil]; exact HBu.out) ?_))
  obtain ⟨W6, hW6⟩ : ∃ W6, W6 = W5.alloc (.cells RZ 72) := ⟨_, rfl⟩
  have B6 := hide (show Below W5.heap.size W5 W6 from by rw [hW6]; exact (Below.refl _ _).alloc (Nat.le_refl _) _)
  have K6 := hide (show Blk W6 W5.heap.size (renZ (.slice ia il ic) (.slice ca n cc) (.slice a0 0 q0) (.slice a1 0 q1) (.slice a2 0 q2) (.func (.func ff) #[] lb)) 72 from by rw [hW6, ← HRZ.out]; exact Blk.new W5 _ _)
  have B6w := hide (show Below w.heap.size w W6 from B5w.out.trans (B6.out.mono B5w.out.size))
  have S6 := hide (show RSt W0 W6 W5.heap.size (rD0 (.slice ia il ic) (.slice ca n cc) st) from by
    have bq : Below w4.heap.size w4 W6 := B5.out.trans (B6.out.mono B5.out.size)
    have hm : W0.heap.size ≤ W3.heap.size := Nat.le_trans hw0 B3w.out.size
    refine rSt_new W0 W6 W5.heap.size _ _ a0 q0 a1 q1 a2 q2 _ st (HA.out.1.trans (B6w.out.mono hw0)) (Nat.le_trans hw0 B5w.out.size) K6.out ⟨own_below (own_mono R4.out.1.1 hm) bq, own_below (own_mono R4.out.1.2.1 hm) bq, own_below (own_mono R4.out.1.2.2 hm) bq⟩ R4.out.2.1 (HA.out.2.2.2.2.2.2.2.2.2.2.1.below B6w.out))
  rw [← hW6]
  clear hW6
  obtain ⟨b, hbW⟩ : ∃ b, b = W5.heap.size := ⟨_, rfl⟩
  rw [← hbW] at S6 ⊢
  clear hbW
  have hL0 : ∀ l, l < 3 → ((rD0 (.slice ia il ic) (.slice ca n cc) st).Ln l).length ≤ 513 := fun l _ => Nat.zero_le _
  have HL0 := hide hL0
  clear hL0
  go_upto_region 11 with (first
    | (go_at_call 46; refine (level0_any W0 _ b n cnt ca cc cs _ S6.out rfl HA.out.2.2.2.2.2.2.1 HA.out.2.2.2.2.2.1 HA.out.2.2.2.2.2.2.2.1 HA.out.2.2.2.2.2.2.2.2.1 HL0.out (Nat.zero_le _) (fun l r => by simp [rD0])).mono ?_; rintro e w7 ⟨rfl, r7, k7⟩; have R7 := hide (And.intro r7 k7); clear r7 k7))
  have hlv := level_at hc
  have HP7 := hide (show RKp (rD0 (.slice ia il ic) (.slice ca n cc) st) ((levelV cnt 0 14).foldl (stepD cs) (rD0 (.slice ia il ic) (.slice ca n cc) st)) 512 from by have h := R7.out.2; rw [hlv.1, List.length_range, ← hlv.1] at h; exact ⟨h.tr, h.cv, h.Lo, by have := h.P; omega, h.Ln⟩)
  obtain ⟨D1, hD1⟩ : ∃ D1, D1 = (levelV cnt 0 14).foldl (stepD cs) (rD0 (.slice ia il ic) (.slice ca n cc) st) := ⟨_, rfl⟩
  rw [← hD1] at R7 HP7
  have HD1 := hide hD1
  have HC := hide hc
  clear hD1 hlv hc
  go_upto_region 12 with (first
    | (go_at_call 46; refine (levelP_any 0 (by omega) W0 _ b n cnt ca cc D1 R7.out.1 (by rw [HP7.out.cv]; rfl) (by have := HA.out.2.2.2.2.2.2.2.1; have := HA.out.2.2.2.2.2.2.1; omega) HA.out.2.2.2.2.2.2.2.2.1 HA.out.2.2.2.2.2.2.2.2.2.1 (fun l _ => Nat.le_trans (HP7.out.Ln l) (by simp [rD0])) (Nat.le_trans HP7.out.P (by simp [rD0])) (fun l r => by rw [HP7.out.Lo]; simp [rD0])).mono ?_; rintro e w8 ⟨rfl, r8, k8⟩; have R8 := hide (And.intro r8 k8); clear r8 k8))
  have hlv := level_at HC.out
  have HP8 := hide (show RKp D1 ((levelV cnt 1 14).foldl (stepP 0) D1) 512 from by have h := R8.out.2; rw [hlv.2.1, List.length_range, ← hlv.2.1] at h; exact ⟨h.tr, h.cv, h.Lo, by have := h.P; have := HC.out; omega, h.Ln⟩)
  obtain ⟨D2, hD2⟩ : ∃ D2, D2 = (levelV cnt 1 14).foldl (stepP 0) D1 := ⟨_, rfl⟩
  have hR8 : RSt W0 w8 b D2 := by rw [hD2]; exact R8.out.1
  have HR8 := hide hR8
  rw [← hD2] at HP8
  have HD2 := hide hD2
  clear hD2 hlv hR8 R8
  go_upto_region 13 with (first
    | (go_at_call 46; refine (levelP_any 1 (by omega) W0 _ b n cnt ca cc D2 HR8.out (by rw [HP8.out.cv, HP7.out.cv]; rfl) (by have := HA.out.2.2.2.2.2.2.2.1; have := HA.out.2.2.2.2.2.2.1; omega) HA.out.2.2.2.2.2.2.2.2.1 HA.out.2.2.2.2.2.2.2.2.2.1 (fun l _ => Nat.le_trans (HP8.out.Ln l) (by have := HP7.out.Ln l; simp [rD0] at this; omega)) (Nat.le_trans HP8.out.P (by have := HP7.out.P; simp [rD0] at this; omega)) (fun l r => by rw [HP8.out.Lo, HP7.out.Lo]; simp [rD0])).mono ?_; rintro e w9 ⟨rfl, r9, k9⟩; have R9 := hide r9; clear r9 k9))
  have hR9 : RSt W0 w9 b (rD3 (.slice ia il ic) (.slice ca n cc) st cs cnt) := by
    unfold rD3
    rw [← HD1.out, ← HD2.out]
    exact R9.out
  have HR9 := hide hR9
  obtain ⟨C9, so9, sl9, fv9, pv9, vs9, hS9⟩ := hR9
  have c25 := (hS9.now.box.cell 25).trans hS9.sh
  rw [HA.out.2.2.2.2.2.2.2.2.2.2.2] at c25
  clear hS9
  go_wp2
  go_ret2
  exact ⟨b, rfl, HR9.out⟩
end Go.Proofs.YtnfgldglpfgmnaaDoor
