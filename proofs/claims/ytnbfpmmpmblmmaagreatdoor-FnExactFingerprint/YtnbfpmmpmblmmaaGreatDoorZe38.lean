/- An opened state; mayName and linksOf. A region that draws its order, inside a fence or a round: what only reads comes first, in whatever order; then number mm. Marks of many ranges; allReached's first loop. -/
import Derived.Test.YtnbfpmmpmblmmaaGreatDoorZe37
import Derived.Test.YtnbfpmmpmblmmaaGreatDoorZe34
namespace Go.Proofs.YtnbfpmmpmblmmaaGreatDoor
set_option linter.unusedVariables false
set_option linter.unusedSimpArgs false
open Go.RowKit

/-- The nodes' pointers lie in block bn. -/
structure OpP (w : World) (bn : Nat) (L : List Nd) (ps : Array Value) : Prop where
  blk : Blk w bn ps 70
  len : ps.size = L.length
  at_ : ∀ i, i < L.length → ∃ p, ps[i]? = some p ∧ OpN w (ndAt L i) p
theorem OpP.below {w w' : World} {bn : Nat} {L : List Nd} {ps : Array Value} (h : OpP w bn L ps) (hb : Below w.heap.size w w') : OpP w' bn L ps :=
  ⟨h.blk.below hb h.blk.lt, h.len, fun i hi => by obtain ⟨p, h1, h2⟩ := h.at_ i hi; exact ⟨p, h1, h2.below hb⟩⟩
/-- A state that was opened, at block bs. -/
structure OpS (w : World) (bs bn : Nat) (C : Int) (L : List Nd) (ps : Array Value) : Prop where
  st : Blk w bs #[.int .i64 C, .slice (some ⟨bn, 0, none⟩) L.length L.length] 69
  nd : OpP w bn L ps
theorem OpS.below {w w' : World} {bs bn : Nat} {C : Int} {L : List Nd} {ps : Array Value} (h : OpS w bs bn C L ps) (hb : Below w.heap.size w w') : OpS w' bs bn C L ps := ⟨h.st.below hb h.st.lt, h.nd.below hb⟩
theorem OpP.cell {w : World} {bn : Nat} {L : List Nd} {ps : Array Value} (h : OpP w bn L ps) {i : Nat} (hi : i < L.length) : ∃ p, w.cell? ⟨bn, i, none⟩ = some p ∧ OpN w (ndAt L i) p := by
  obtain ⟨p, h1, h2⟩ := h.at_ i hi
  exact ⟨p, (h.blk.cell i).trans h1, h2⟩
/-- What is read of a node that isn't free. -/
theorem OpN.some {w : World} {x : Nd} {p : Value} (h : OpN w x p) (hk : x.k ≠ 0) : ∃ g a c dp, p = .pointer (some ⟨g, 0, none⟩) ∧ Blk w g #[.int .i64 x.k, .int .i64 x.l, .int .i64 x.m, .int .i64 x.u, .int .i64 x.g, .int .i64 x.p, .int .i64 x.e, .int .i64 x.t, .int .i64 x.c, .slice a x.d.length c, .pointer dp] 110 ∧ Rd .u8 w (.slice a x.d.length c) x.d ∧ (a = none → c = 0) ∧ (x.k ≠ 2 → dp = none) ∧ (x.k = 2 → ∃ d, dp = some ⟨d, 0, none⟩ ∧ DirR w d x.d) := by
  rcases h with ⟨h, _⟩ | ⟨_, g, a, c, dp, h1, h2, h3, hn, h4⟩
  · exact absurd h hk
  · rcases h4 with ⟨h4, rfl⟩ | ⟨h4, d, rfl, h5⟩
    · exact ⟨g, a, c, none, h1, h2, h3, hn, fun _ => rfl, fun h => absurd h h4⟩
    · exact ⟨g, a, c, _, h1, h2, h3, hn, fun h => absurd h4 h, fun _ => ⟨d, rfl, h5⟩⟩
theorem OpN.free {w : World} {x : Nd} {p : Value} (h : OpN w x p) (hk : x.k = 0) : p = .pointer none := by
  rcases h with ⟨_, h⟩ | ⟨h, _⟩
  · exact h
  · exact absurd hk h
set_option maxRecDepth 100000 in
set_option maxHeartbeats 4000000 in
theorem mayName_any (bs bn : Nat) (C : Int) (L : List Nd) (ps : Array Value) (w : World) (h : OpS w bs bn C L ps) (hL : L.length ≤ 1048576) (i : Nat) (nm : ByteArray) (ino kd : Nat) :
    Calls Tryz.prog 50 #[.pointer (some ⟨bs, 0, none⟩), .int .i64 (i : Int), .agg #[.string nm, .int .i64 (ino : Int), .int .i64 (kd : Int)]] w fun e w' => e = .returned (.bool (mayE L i (nm, ino, kd))) ∧ Below w.heap.size w w' := by
  obtain ⟨N, hN⟩ : ∃ N, N = L.length := ⟨_, rfl⟩
  obtain ⟨W1, hW1⟩ : ∃ W1, W1 = w.alloc (.cells #[.string nm, .int .i64 (ino : Int), .int .i64 (kd : Int)] 94) := ⟨_, rfl⟩
  have b1 : Below w.heap.size w W1 := by rw [hW1]; exact (Below.refl _ _).alloc (Nat.le_refl _) _
  have K1 := hide (show Blk W1 w.heap.size #[.string nm, .int .i64 (ino : Int), .int .i64 (kd : Int)] 94 from by rw [hW1]; exact Blk.new w _ _)
  have HO := hide (h.below b1)
  have HB := hide b1
  have HN := hide hN
  have HW1 := hide hW1
  rw [← hN] at hL
  have FA := hide (show ∀ W, Below W1.heap.size W1 W → W.cell? ⟨w.heap.size, 1, none⟩ = some (.int .i64 (ino : Int)) ∧ W.cell? ⟨w.heap.size, 2, none⟩ = some (.int .i64 (kd : Int)) ∧ W.cell? ⟨bs, 1, none⟩ = some (.slice (some ⟨bn, 0, none⟩) N N) from fun W hb => by
    have k := K1.out.below hb K1.out.lt
    have o := HO.out.below hb
    refine ⟨(k.cell 1).trans rfl, (k.cell 2).trans rfl, ?_⟩
    rw [HN.out]
    exact (o.st.cell 1).trans rfl)
  have HBW := hide (show ∀ W, Below W1.heap.size W1 W → Below w.heap.size w W from fun W hb => HB.out.trans (hb.mono HB.out.size))
  clear h b1 hW1 hN
  have f0 := (FA.out W1 (Below.refl _ _)).1
  have f1 := (FA.out W1 (Below.refl _ _)).2.2
  by_cases h1 : ino = 1
  · have h1b : ((ino : Int) == 1) = true := by rw [h1]; rfl
    have HE := hide (show mayE L i (nm, ino, kd) = false from by unfold mayE; rw [decide_eq_false (by simpa using h1)]; rfl)
    rw [HE.out]
    clear h1
    go_enter Tryz.func50, Tryz.ntmps50
    go_upto_region 1 with fail
    rw [← HW1.out]
    go_quiet (fail)
    go_wp2_with fail
    go_ret
    exact ⟨rfl, HBW.out _ (Go.below_drewN (Below.refl _ _) _)⟩
  have h1b : ((ino : Int) == 1) = false := by simp; omega
  by_cases h2 : N ≤ ino
  · have h2b : decide (N ≤ ino) = true := decide_eq_true h2
    have HE := hide (show mayE L i (nm, ino, kd) = false from by unfold mayE; rw [decide_eq_false (show ¬ ino < L.length by rw [← HN.out]; omega)]; simp)
    rw [HE.out]
    clear h1 h2
    go_enter Tryz.func50, Tryz.ntmps50
    go_upto_region 1 with fail
    rw [← HW1.out]
    go_quiet (fail)
    go_wp2_with fail
    go_ret
    exact ⟨rfl, HBW.out _ (Go.below_drewN (Below.refl _ _) _)⟩
  have h2b : decide (N ≤ ino) = false := decide_eq_false h2
  have hlt : (ino : Int) < (N : Int) := by omega
  have hge : ¬ ((N : Int) ≤ (ino : Int)) := by omega
  have hin : ino < L.length := by rw [← HN.out]; omega
  go_enter Tryz.func50, Tryz.ntmps50
  go_upto_region 1 with fail
  rw [← HW1.out]
  clear HW1
  have H12 := hide (And.intro h1 h2)
  clear h1 h2
  go_quiet (fail)
  obtain ⟨W2, hW2⟩ : ∃ W2, W2 = W1.drewN nq := ⟨_, rfl⟩
  have B2 := hide (show Below W1.heap.size W1 W2 from by rw [hW2]; exact Go.below_drewN (Below.refl _ _) _)
  rw [← hW2]
  clear hW2
  clear nq h1b h2b f0 f1
  obtain ⟨p, hp, hop⟩ := (HO.out.below B2.out).nd.cell hin
  have HP := hide hop
  have f0 := (FA.out W2 B2.out).1
  have f1 := (FA.out W2 B2.out).2.2
  clear hop
  have hltN : ino < N := by omega
  go_upto_region 3 with fail
  have HIN := hide hin
  have HC := hide (And.intro hlt hge)
  by_cases hk0 : (ndAt L ino).k = 0
  · obtain rfl := HP.out.free hk0
    have HE := hide (show mayE L i (nm, ino, kd) = false from by unfold mayE; rw [decide_eq_false (show ¬ (ndAt L (nm, ino, kd).2.1).k ≠ 0 from fun h => h hk0)]; simp)
    clear hk0
    go_quiet (fail)
    go_upto_region 4 with fail
    go_quiet (fail)
    go_wp2_with fail
    go_ret
    exact ⟨by rw [HE.out]; rfl, HBW.out _ (B2.out.trans ((Go.below_drewN (Below.refl _ _) _).mono B2.out.size))⟩
  obtain ⟨g, na, nc, dp, rfl, hblk, _, _, hd1, hd2⟩ := HP.out.some hk0
  obtain ⟨x, hx⟩ : ∃ x, x = ndAt L ino := ⟨_, rfl⟩
  rw [← hx] at hblk hk0 hd1 hd2
  have KG := hide hblk
  have HX := hide hx
  have HD := hide (And.intro hd1 hd2)
  have HK0 := hide hk0
  clear hblk hx hd1 hd2 hk0 HP
  go_quiet (fail)
  obtain ⟨W3, hW3⟩ : ∃ W3, W3 = W2.drewN nq := ⟨_, rfl⟩
  have B23 := hide (show Below W2.heap.size W2 W3 from by rw [hW3]; exact Go.below_drewN (Below.refl _ _) _)
  rw [← hW3]
  clear hW3 hp f0 f1
  clear nq
  have B3 := hide (B2.out.trans (B23.out.mono B2.out.size))
  have KG3 := hide (KG.out.below B23.out KG.out.lt)
  have g0 := (KG3.out.cell 0).trans (show _ = some (.int .i64 x.k) from rfl)
  have f2 := (FA.out W3 B3.out).2.1
  have HEE := hide (show mayE L i (nm, ino, kd) = (decide (x.k = (kd : Int)) && (!decide (x.k = 2) || decide (x.p = (i : Int)))) from by
    unfold mayE
    rw [decide_eq_true (show (nm, ino, kd).2.1 ≠ 1 from H12.out.1), decide_eq_true (show (nm, ino, kd).2.1 < L.length from HIN.out), ← HX.out, decide_eq_true HK0.out]
    simp)
  by_cases hk : x.k = (kd : Int)
  rotate_left
  · have hkb : (x.k != (kd : Int)) = true := by simpa using hk
    have HM := hide (HEE.out.trans (show _ = false from by rw [decide_eq_false hk, Bool.false_and]))
    clear hk
    go_upto_region 4 with fail
    go_quiet (fail)
    go_wp2_with fail
    go_ret
    exact ⟨by rw [HM.out]; rfl, HBW.out _ (B3.out.trans ((Go.below_drewN (Below.refl _ _) _).mono B3.out.size))⟩
  have hkb : (x.k != (kd : Int)) = false := by simp [hk]
  have HE3 := hide (HEE.out.trans (show _ = (!decide (x.k = 2) || decide (x.p = (i : Int))) from by rw [decide_eq_true hk, Bool.true_and]))
  clear hk
  go_upto_region 4 with fail
  go_quiet (fail)
  obtain ⟨W4, hW4⟩ : ∃ W4, W4 = W3.drewN nq := ⟨_, rfl⟩
  have B34 := hide (show Below W3.heap.size W3 W4 from by rw [hW4]; exact Go.below_drewN (Below.refl _ _) _)
  rw [← hW4]
  clear hW4
  clear nq
  have KG4 := hide (KG3.out.below B34.out KG3.out.lt)
  have HBE := hide (HBW.out _ (B3.out.trans (B34.out.mono B3.out.size)))
  clear g0 f2 hkb
  have g10 := (KG4.out.cell 10).trans (show _ = some (.pointer dp) from rfl)
  have g5 := (KG4.out.cell 5).trans (show _ = some (.int .i64 x.p) from rfl)
  by_cases hk2 : x.k = 2
  rotate_left
  · obtain rfl := HD.out.1 hk2
    have HM := hide (HE3.out.trans (show _ = true from by rw [decide_eq_false hk2]; rfl))
    clear hk2
    go_wp2_with fail
    go_ret
    exact ⟨by rw [HM.out]; rfl, HBE.out⟩
  obtain ⟨d, rfl, _⟩ := HD.out.2 hk2
  have HE4 := hide (HE3.out.trans (show _ = decide (x.p = (i : Int)) from by rw [decide_eq_true hk2]; rfl))
  clear hk2
  by_cases hpi : x.p = (i : Int)
  · have hpb : (x.p == (i : Int)) = true := by simp [hpi]
    have HM := hide (HE4.out.trans (decide_eq_true hpi))
    clear hpi
    go_wp2_with fail
    go_ret
    exact ⟨by rw [HM.out]; rfl, HBE.out⟩
  · have hpb : (x.p == (i : Int)) = false := by simpa using hpi
    have HM := hide (HE4.out.trans (decide_eq_false hpi))
    clear hpi
    go_wp2_with fail
    go_ret
    exact ⟨by rw [HM.out]; rfl, HBE.out⟩
set_option maxRecDepth 100000 in
set_option maxHeartbeats 4000000 in
theorem linksOf_any (x : Nd) (g : Nat) (a : Option Addr) (q c : Nat) (dp : Option Addr) (cn cd : Int) (w : World) (hblk : Blk w g #[.int .i64 x.k, .int .i64 x.l, .int .i64 x.m, .int .i64 x.u, .int .i64 x.g, .int .i64 x.p, .int .i64 x.e, .int .i64 x.t, .int .i64 x.c, .slice a q c, .pointer dp] 110) (h1 : x.k ≠ 2 → dp = none) (h2 : x.k = 2 → ∃ d, dp = some ⟨d, 0, none⟩ ∧ DirR w d x.d) (hcd : 0 ≤ cd ∧ cd ≤ 1099511627776) :
    Calls Tryz.prog 51 #[.pointer (some ⟨g, 0, none⟩), .agg #[.int .i64 cn, .int .i64 cd]] w fun e w' => e = .returned (.int .i64 (if x.k = 2 then 2 + cd else cn)) ∧ Below w.heap.size w w' := by
  have HK := hide (hblk.alloc (.cells #[.int .i64 cn, .int .i64 cd] 120))
  have KN := hide (Blk.new w #[.int .i64 cn, .int .i64 cd] 120)
  have g10 := (HK.out.cell 10).trans (show _ = some (.pointer dp) from rfl)
  have n0 := (KN.out.cell 0).trans (show _ = some (.int .i64 cn) from rfl)
  have n1 := (KN.out.cell 1).trans (show _ = some (.int .i64 cd) from rfl)
  have hw2 : IntKind.i64.wrap (2 + cd) = 2 + cd := by rw [IntKind.wrap_i64]; omega
  have HB := hide (show Below w.heap.size w (w.alloc (.cells #[.int .i64 cn, .int .i64 cd] 120)) from (Below.refl _ _).alloc (Nat.le_refl _) _)
  clear hblk
  by_cases hk : x.k = 2
  · obtain ⟨d, rfl, _⟩ := h2 hk
    rw [if_pos hk]
    clear hk h1 h2
    go_enter Tryz.func51, Tryz.ntmps51
    go_wp2
    go_ret
    exact ⟨by go_num, HB.out⟩
  · obtain rfl := h1 hk
    rw [if_neg hk]
    clear hk h1 h2
    go_enter Tryz.func51, Tryz.ntmps51
    go_wp2
    go_ret
    exact ⟨rfl, HB.out⟩
end Go.Proofs.YtnbfpmmpmblmmaaGreatDoor

namespace Go.Proofs.YtnbfpmmpmblmmaaGreatDoor
set_option linter.unusedVariables false
set_option linter.unusedSimpArgs false
open Go.RowKit

def allB : Nat → List (List Bool)
  | 0 => [[]]
  | n + 1 => (allB n).flatMap fun l => [true :: l, false :: l]
theorem mem_allB : ∀ (l : List Bool), l ∈ allB l.length
  | [] => by simp [allB]
  | b :: l => by
    simp only [List.length_cons, allB, List.mem_flatMap]
    exact ⟨l, mem_allB l, by cases b <;> simp⟩
/-- The listed ones: l says which of the first ones have come, the others have not. -/
def lstB (N mm : Nat) (l : List Bool) : Array Bool := (l ++ List.replicate (N - mm) false).toArray
def closedB (ops : Array Oper) (mm : Nat) (l : List Bool) : Bool := (List.range mm).all fun i => !(l.getD i false) || (match ops[i]? with | some o => o.after.toList.all (fun e => !(Region.binds .any e) || l.getD e.on false) | none => true)
def readsB (ops : Array Oper) (mm : Nat) : Bool := decide (mm ≤ ops.size) && (allB mm).all fun l => !(closedB ops mm l) || l.all id || (!(Region.ready .any ops (lstB ops.size mm l)).isEmpty && (Region.ready .any ops (lstB ops.size mm l)).all (fun i => decide (i < mm)))
theorem readsB_at {ops : Array Oper} {mm : Nat} (h : readsB ops mm = true) {l : List Bool} (hl : l.length = mm) (hc : closedB ops mm l = true) (hn : l.all id = false) : Region.ready .any ops (lstB ops.size mm l) ≠ [] ∧ ∀ i ∈ Region.ready .any ops (lstB ops.size mm l), i < mm := by
  unfold readsB at h
  rw [Bool.and_eq_true, List.all_eq_true] at h
  have h1 := h.2 l (by rw [← hl]; exact mem_allB l)
  rw [hc, hn] at h1
  simp at h1
  exact ⟨h1.1, h1.2⟩
theorem lst_getD {N mm : Nat} {l : List Bool} (hl : l.length = mm) (i : Nat) : (lstB N mm l).getD i false = l.getD i false := by
  unfold lstB
  rw [Array.getD_eq_getD_getElem?]
  simp only [List.getElem?_toArray, List.getElem?_append, List.getD_eq_getElem?_getD]
  split
  · rfl
  · rw [List.getElem?_replicate]
    rw [List.getElem?_eq_none (by omega)]
    split <;> rfl
theorem lst_set {N mm : Nat} {l : List Bool} (hl : l.length = mm) {i : Nat} (hi : i < mm) : (lstB N mm l).setIfInBounds i true = lstB N mm (l.set i true) := by
  unfold lstB
  simp [List.set_append, hl, hi]
end Go.Proofs.YtnbfpmmpmblmmaaGreatDoor

namespace Go.Proofs.YtnbfpmmpmblmmaaGreatDoor
set_option linter.unusedVariables false
set_option linter.unusedSimpArgs false
open Go.RowKit Go.Shelf
attribute [local go_sem] Oper.semAt_some

/-- The marks that ranges over functions left. -/
def Mks (Ds : List Nat) (W : World) : Prop := ∀ D ∈ Ds, W.heap[D]? = some (.deferred (some []))
def mksD (Ds : List Nat) : List Deferred := Ds.map fun D => { target := .collected D, args := #[] }
theorem Mks.keep {Ds : List Nat} {W W' : World} (h : Mks Ds W) (hk : KeepsOthers W W') : Mks Ds W' := fun D hD => hk.same D _ (h D hD) rfl
theorem Mks.grown {Ds : List Nat} {W W' : World} {row : Option Nat} {B : Nat} (h : Mks Ds W) (hl : ∀ D ∈ Ds, D < B) (hg : W.grownBy W' row) (hr : ∀ r, row = some r → B ≤ r) : Mks Ds W' := fun D hD =>
  (hg.block D (Array.getElem?_eq_some_iff.1 (h D hD)).1 (fun e => by have := hr D e.symm; have := hl D hD; omega)).trans (h D hD)
theorem leaves_marks {F : Fence} {n : Nat} {P : Program} {fn : Func} {tmps : Array Value} {R : Ending → World → Prop} (m : Nat) : ∀ (Ds : List Nat) (W : World), Mks Ds W → Ds.Nodup → (∀ D ∈ Ds, m ≤ D) → (∀ W', Below m W W' → (∀ k, k ∉ Ds → W'.heap[k]? = W.heap[k]?) → LeavesIn F n P fn tmps R [] .returning W') → LeavesInM F n P fn tmps R (mksD Ds) .returning W
  | [], W, _, _, _, h => h W (Below.refl _ _) (fun _ _ => rfl)
  | D :: Ds, W, hM, hN, hl, h => by
    have hD := hM D (by simp)
    have hlt : D < W.heap.size := (Array.getElem?_eq_some_iff.1 hD).1
    refine ⟨by simp, .inl ⟨D, W.putObj D (.deferred none), rfl, run_takeDeferred hD, leaves_marks m Ds _ (fun D' h' => ?_) (List.nodup_cons.1 hN).2 (fun D' h' => hl D' (by simp [h'])) (fun W' hb hk => h W' ?_ (fun k hk' => ?_))⟩⟩
    · refine (World.putObj_heap_other (fun e => ?_)).trans (hM D' (by simp [h']))
      subst e
      exact (List.nodup_cons.1 hN).1 h'
    · exact ((Below.refl m W).grown (grownBy_putObj' W D _) (Nat.le_trans (hl D (by simp)) (Nat.le_of_lt hlt)) (fun k e => by cases e; exact hl D (by simp))).trans hb
    · simp only [List.mem_cons, not_or] at hk'
      exact (hk k hk'.2).trans (World.putObj_heap_other hk'.1)
/-- How many of the first k nodes are directories. -/
def dcN (L : List Nd) (k : Nat) : Nat := ((List.range k).filter (kdN L · == 2)).length
theorem dcN_succ (L : List Nd) (k : Nat) : dcN L (k + 1) = dcN L k + (if kdN L k = 2 then 1 else 0) := by
  unfold dcN
  rw [List.range_succ, List.filter_append, List.length_append]
  by_cases h : kdN L k = 2 <;> simp [h]
theorem dcN_le (L : List Nd) (k : Nat) : dcN L k ≤ k := by
  unfold dcN
  have := List.length_filter_le (kdN L · == 2) (List.range k)
  simpa using this
def pvN (ps : Array Value) (i : Nat) : Value := ps.getD i undef
theorem OpP.pv {w : World} {bn : Nat} {L : List Nd} {ps : Array Value} (h : OpP w bn L ps) {i : Nat} (hi : i < L.length) : w.cell? ⟨bn, i, none⟩ = some (pvN ps i) ∧ OpN w (ndAt L i) (pvN ps i) := by
  obtain ⟨p, h1, h2⟩ := h.at_ i hi
  have : pvN ps i = p := by unfold pvN; rw [Array.getD_eq_getD_getElem?, h1]; rfl
  rw [this]
  exact ⟨(h.blk.cell i).trans h1, h2⟩
end Go.Proofs.YtnbfpmmpmblmmaaGreatDoor
