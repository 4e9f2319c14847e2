/- An opened state; mayName and linksOf. A region that draws its order, inside a fence or a round: what only reads comes first, in whatever order; then number mm. Marks of many ranges; allReached's first loop. A region that draws its order, inside a fence or a round: what only reads and one operation that turns w into w1 come first, in whatever order; then the rest. -/
import Derived.Test.YtplieplmhdfndaaGreatDoorZg33
import Derived.Test.YtplieplmhdfndaaGreatDoorZg30
namespace Go.Proofs.YtplieplmhdfndaaGreatDoor
set_option linter.unusedVariables false
set_option linter.unusedSimpArgs false
open Go.RowKit

/-- The nodes' pointers lie in block bn. -/
structure OpP (w : World) (bn : Nat) (L : List Nd) (ps : Array Value) : Prop where
  blk : Blk w bn ps 82
  len : ps.size = L.length
  at_ : ∀ i, i < L.length → ∃ p, ps[i]? = some p ∧ OpN w (ndAt L i) p
theorem OpP.below {w w' : World} {bn : Nat} {L : List Nd} {ps : Array Value} (h : OpP w bn L ps) (hb : Below w.heap.size w w') : OpP w' bn L ps :=
  ⟨h.blk.below hb h.blk.lt, h.len, fun i hi => by obtain ⟨p, h1, h2⟩ := h.at_ i hi; exact ⟨p, h1, h2.below hb⟩⟩
/-- A state that was opened, at block bs. -/
structure OpS (w : World) (bs bn : Nat) (C : Int) (L : List Nd) (ps : Array Value) : Prop where
  st : Blk w bs #[.int .i64 C, .slice (some ⟨bn, 0, none⟩) L.length L.length] 85
  nd : OpP w bn L ps
theorem OpS.below {w w' : World} {bs bn : Nat} {C : Int} {L : List Nd} {ps : Array Value} (h : OpS w bs bn C L ps) (hb : Below w.heap.size w w') : OpS w' bs bn C L ps := ⟨h.st.below hb h.st.lt, h.nd.below hb⟩
theorem OpP.cell {w : World} {bn : Nat} {L : List Nd} {ps : Array Value} (h : OpP w bn L ps) {i : Nat} (hi : i < L.length) : ∃ p, w.cell? ⟨bn, i, none⟩ = some p ∧ OpN w (ndAt L i) p := by
  obtain ⟨p, h1, h2⟩ := h.at_ i hi
  exact ⟨p, (h.blk.cell i).trans h1, h2⟩
/-- What is read of a node that isn't free. -/
theorem OpN.some {w : World} {x : Nd} {p : Value} (h : OpN w x p) (hk : x.k ≠ 0) : ∃ g a c dp, p = .pointer (some ⟨g, 0, none⟩) ∧ Blk w g #[.int .i64 x.k, .int .i64 x.l, .int .i64 x.m, .int .i64 x.u, .int .i64 x.g, .int .i64 x.p, .int .i64 x.e, .int .i64 x.t, .int .i64 x.c, .slice a x.d.length c, .pointer dp] 81 ∧ Rd .u8 w (.slice a x.d.length c) x.d ∧ (a = none → c = 0) ∧ (x.k ≠ 2 → dp = none) ∧ (x.k = 2 → ∃ d, dp = some ⟨d, 0, none⟩ ∧ DirR w d x.d) := by
  rcases h with ⟨h, _⟩ | ⟨_, g, a, c, dp, h1, h2, h3, hn, h4⟩
  · exact absurd h hk
  · rcases h4 with ⟨h4, rfl⟩ | ⟨h4, d, rfl, h5⟩
    · exact ⟨g, a, c, none, h1, h2, h3, hn, fun _ => rfl, fun h => absurd h h4⟩
    · exact ⟨g, a, c, _, h1, h2, h3, hn, fun h => absurd h4 h, fun _ => ⟨d, rfl, h5⟩⟩
theorem OpN.free {w : World} {x : Nd} {p : Value} (h : OpN w x p) (hk : x.k = 0) : p = .pointer none := by
  rcases h with ⟨_, h⟩ | ⟨h, _⟩
  · exact h
  · exact absurd hk h
set_option maxRecDepth 100000 in
set_option maxHeartbeats 4000000 in
theorem mayName_any (bs bn : Nat) (C : Int) (L : List Nd) (ps : Array Value) (w : World) (h : OpS w bs bn C L ps) (hL : L.length ≤ 1048576) (i : Nat) (nm : ByteArray) (ino kd : Nat) :
    Calls Tryz.prog 99 #[.pointer (some ⟨bs, 0, none⟩), .int .i64 (i : Int), .agg #[.string nm, .int .i64 (ino : Int), .int .i64 (kd : Int)]] w fun e w' => e = .returned (.bool (mayE L i (nm, ino, kd))) ∧ Below w.heap.size w w' := by
  obtain ⟨N, hN⟩ : ∃ N, N = L.length := ⟨_, rfl⟩
  obtain ⟨W1, hW1⟩ : ∃ W1, W1 = w.alloc (.cells #[.string nm, .int .i64 (ino : Int), .int .i64 (kd : Int)] 61) := ⟨_, rfl⟩
  have b1 : Below w.heap.size w W1 := by rw [hW1]; exact (Below.refl _ _).alloc (Nat.le_refl _) _
  have K1 := hide (show Blk W1 w.heap.size #[.string nm, .int .i64 (ino : Int), .int .i64 (kd : Int)] 61 from by rw [hW1]; exact Blk.new w _ _)
  have HO := hide (h.below b1)
  have HB := hide b1
  have HN := hide hN
  have HW1 := hide hW1
  rw [← hN] at hL
  have FA := hide (show ∀ W, Below W1.heap.size W1 W → W.cell? ⟨w.heap.size, 1, none⟩ = some (.int .i64 (ino : Int)) ∧ W.cell? ⟨w.heap.size, 2, none⟩ = some (.int .i64 (kd : Int)) ∧ W.cell? ⟨bs, 1, none⟩ = some (.slice (some ⟨bn, 0, none⟩) N N) from fun W hb => by
    have k := K1.out.below hb K1.out.lt
    have o := HO.out.below hb
    refine ⟨(k.cell 1).trans rfl, (k.cell 2).trans rfl, ?_⟩
    rw [HN.out]
    exact (o.st.cell 1).trans rfl)
  have HBW := hide (show ∀ W, Below W1.heap.size W1 W → Below w.heap.size w W from fun W hb => HB.out.trans (hb.mono HB.out.size))
  clear h b1 hW1 hN
  have f0 := (FA.out W1 (Below.refl _ _)).1
  have f1 := (FA.out W1 (Below.refl _ _)).2.2
  by_cases h1 : ino = 1
  · have h1b : ((ino : Int) == 1) = true := by rw [h1]; rfl
    have HE := hide (show mayE L i (nm, ino, kd) = false from by unfold mayE; rw [decide_eq_false (by simpa using h1)]; rfl)
    rw [HE.out]
    clear h1
    go_enter Tryz.func99, Tryz.ntmps99
    go_upto_region 1 with fail
    rw [← HW1.out]
    go_quiet (fail)
    go_wp2_with fail
    go_ret
    exact ⟨rfl, HBW.out _ (Go.below_drewN (Below.refl _ _) _)⟩
  have h1b : ((ino : Int) == 1) = false := by simp; omega
  by_cases h2 : N ≤ ino
  · have h2b : decide (N ≤ ino) = true := decide_eq_true h2
    have HE := hide (show mayE L i (nm, ino, kd) = false from by unfold mayE; rw [decide_eq_false (show ¬ ino < L.length by rw [← HN.out]; omega)]; simp)
    rw [HE.out]
    clear h1 h2
    go_enter Tryz.func99, Tryz.ntmps99
    go_upto_region 1 with fail
    rw [← HW1.out]
    go_quiet (fail)
    go_wp2_with fail
    go_ret
    exact ⟨rfl, HBW.out _ (Go.below_drewN (Below.refl _ _) _)⟩
  have h2b : decide (N ≤ ino) = false := decide_eq_false h2
  have hlt : (ino : Int) < (N : Int) := by omega
  have hge : ¬ ((N : Int) ≤ (ino : Int)) := by omega
  have hin : ino < L.length := by rw [← HN.out]; omega
  go_enter Tryz.func99, Tryz.ntmps99
  go_upto_region 1 with fail
  rw [← HW1.out]
  clear HW1
  have H12 := hide (And.intro h1 h2)
  clear h1 h2
  go_quiet (fail)
  obtain ⟨W2, hW2⟩ : ∃ W2, W2 = W1.drewN nq := ⟨_, rfl⟩
  have B2 := hide (show Below W1.heap.size W1 W2 from by rw [hW2]; exact Go.below_drewN (Below.refl _ _) _)
  rw [← hW2]
  clear hW2
  clear nq h1b h2b f0 f1
  obtain ⟨p, hp, hop⟩ := (HO.out.below B2.out).nd.cell hin
  have HP := hide hop
  have f0 := (FA.out W2 B2.out).1
  have f1 := (FA.out W2 B2.out).2.2
  clear hop
  have hltN : ino < N := by omega
  go_upto_region 3 with fail
  have HIN := hide hin
  have HC := hide (And.intro hlt hge)
  by_cases hk0 : (ndAt L ino).k = 0
  · obtain rfl := HP.out.free hk0
    have HE := hide (show mayE L i (nm, ino, kd) = false from by unfold mayE; rw [decide_eq_false (show ¬ (ndAt L (nm, ino, kd).2.1).k ≠ 0 from fun h => h hk0)]; simp)
    clear hk0
    go_quiet (fail)
    go_upto_region 4 with fail
    go_quiet (fail)
    go_wp2_with fail
    go_ret
    exact ⟨by rw [HE.out]; rfl, HBW.out _ (B2.out.trans ((Go.below_drewN (Below.refl _ _) _).mono B2.out.size))⟩
  obtain ⟨g, na, nc, dp, rfl, hblk, _, _, hd1, hd2⟩ := HP.out.some hk0
  obtain ⟨x, hx⟩ : ∃ x, x = ndAt L ino := ⟨_, rfl⟩
  rw [← hx] at hblk hk0 hd1 hd2
  have KG := hide hblk
  have HX := hide hx
  have HD := hide (And.intro hd1 hd2)
  have HK0 := hide hk0
  clear hblk hx hd1 hd2 hk0 HP
  go_quiet (fail)
  obtain ⟨W3, hW3⟩ : ∃ W3, W3 = W2.drewN nq := ⟨_, rfl⟩
  have B23 := hide (show Below W2.heap.size W2 W3 from by rw [hW3]; exact Go.below_drewN (Below.refl _ _) _)
  rw [← hW3]
  clear hW3 hp f0 f1
  clear nq
  have B3 := hide (B2.out.trans (B23.out.mono B2.out.size))
  have KG3 := hide (KG.out.below B23.out KG.out.lt)
  have g0 := (KG3.out.cell 0).trans (show _ = some (.int .i64 x.k) from rfl)
  have f2 := (FA.out W3 B3.out).2.1
  have HEE := hide (show mayE L i (nm, ino, kd) = (decide (x.k = (kd : Int)) && (!decide (x.k = 2) || decide (x.p = (i : Int)))) from by
    unfold mayE
    rw [decide_eq_true (show (nm, ino, kd).2.1 ≠ 1 from H12.out.1), decide_eq_true (show (nm, ino, kd).2.1 < L.length from HIN.out), ← HX.out, decide_eq_true HK0.out]
    simp)
  by_cases hk : x.k = (kd : Int)
  rotate_left
  · have hkb : (x.k != (kd : Int)) = true := by simpa using hk
    have HM := hide (HEE.out.trans (show _ = false from by rw [decide_eq_false hk, Bool.false_and]))
    clear hk
    go_upto_region 4 with fail
    go_quiet (fail)
    go_wp2_with fail
    go_ret
    exact ⟨by rw [HM.out]; rfl, HBW.out _ (B3.out.trans ((Go.below_drewN (Below.refl _ _) _).mono B3.out.size))⟩
  have hkb : (x.k != (kd : Int)) = false := by simp [hk]
  have HE3 := hide (HEE.out.trans (show _ = (!decide (x.k = 2) || decide (x.p = (i : Int))) from by rw [decide_eq_true hk, Bool.true_and]))
  clear hk
  go_upto_region 4 with fail
  go_quiet (fail)
  obtain ⟨W4, hW4⟩ : ∃ W4, W4 = W3.drewN nq := ⟨_, rfl⟩
  have B34 := hide (show Below W3.heap.size W3 W4 from by rw [hW4]; exact Go.below_drewN (Below.refl _ _) _)
  rw [← hW4]
  clear hW4
  clear nq
  have KG4 := hide (KG3.out.below B34.out KG3.out.lt)
  have HBE := hide (HBW.out _ (B3.out.trans (B34.out.mono B3.out.size)))
  clear g0 f2 hkb
  have g10 := (KG4.out.cell 10).trans (show _ = some (.pointer dp) from rfl)
  have g5 := (KG4.out.cell 5).trans (show _ = some (.int .i64 x.p) from rfl)
  by_cases hk2 : x.k = 2
  rotate_left
  · obtain rfl := HD.out.1 hk2
    have HM := hide (HE3.out.trans (show _ = true from by rw [decide_eq_false hk2]; rfl))
    clear hk2
    go_wp2_with fail
    go_ret
    exact ⟨by rw [HM.out]; rfl, HBE.out⟩
  obtain ⟨d, rfl, _⟩ := HD.out.2 hk2
  have HE4 := hide (HE3.out.trans (show _ = decide (x.p = (i : Int)) from by rw [decide_eq_true hk2]; rfl))
  clear hk2
  by_cases hpi : x.p = (i : Int)
  · have hpb : (x.p == (i : Int)) = true := by simp [hpi]
    have HM := hide (HE4.out.trans (decide_eq_true hpi))
    clear hpi
    go_wp2_with fail
    go_ret
    exact ⟨by rw [HM.out]; rfl, HBE.out⟩
  · have hpb : (x.p == (i : Int)) = false := by simpa using hpi
    have HM := hide (HE4.out.trans (decide_eq_false hpi))
    clear hpi
    go_wp2_with fail
    go_ret
    exact ⟨by rw [HM.out]; rfl, HBE.out⟩
set_option maxRecDepth 100000 in
set_option maxHeartbeats 4000000 in
theorem linksOf_any (x : Nd) (g : Nat) (a : Option Addr) (q c : Nat) (dp : Option Addr) (cn cd : Int) (w : World) (hblk : Blk w g #[.int .i64 x.k, .int .i64 x.l, .int .i64 x.m, .int .i64 x.u, .int .i64 x.g, .int .i64 x.p, .int .i64 x.e, .int .i64 x.t, .int .i64 x.c, .slice a q c, .pointer dp] 81) (h1 : x.k ≠ 2 → dp = none) (h2 : x.k = 2 → ∃ d, dp = some ⟨d, 0, none⟩ ∧ DirR w d x.d) (hcd : 0 ≤ cd ∧ cd ≤ 1099511627776) :
    Calls Tryz.prog 100 #[.pointer (some ⟨g, 0, none⟩), .agg #[.int .i64 cn, .int .i64 cd]] w fun e w' => e = .returned (.int .i64 (if x.k = 2 then 2 + cd else cn)) ∧ Below w.heap.size w w' := by
  have HK := hide (hblk.alloc (.cells #[.int .i64 cn, .int .i64 cd] 182))
  have KN := hide (Blk.new w #[.int .i64 cn, .int .i64 cd] 182)
  have g10 := (HK.out.cell 10).trans (show _ = some (.pointer dp) from rfl)
  have n0 := (KN.out.cell 0).trans (show _ = some (.int .i64 cn) from rfl)
  have n1 := (KN.out.cell 1).trans (show _ = some (.int .i64 cd) from rfl)
  have hw2 : IntKind.i64.wrap (2 + cd) = 2 + cd := by rw [IntKind.wrap_i64]; omega
  have HB := hide (show Below w.heap.size w (w.alloc (.cells #[.int .i64 cn, .int .i64 cd] 182)) from (Below.refl _ _).alloc (Nat.le_refl _) _)
  clear hblk
  by_cases hk : x.k = 2
  · obtain ⟨d, rfl, _⟩ := h2 hk
    rw [if_pos hk]
    clear hk h1 h2
    go_enter Tryz.func100, Tryz.ntmps100
    go_wp2
    go_ret
    exact ⟨by go_num, HB.out⟩
  · obtain rfl := h1 hk
    rw [if_neg hk]
    clear hk h1 h2
    go_enter Tryz.func100, Tryz.ntmps100
    go_wp2
    go_ret
    exact ⟨rfl, HB.out⟩
end Go.Proofs.YtplieplmhdfndaaGreatDoor

namespace Go.Proofs.YtplieplmhdfndaaGreatDoor
set_option linter.unusedVariables false
set_option linter.unusedSimpArgs false
open Go.RowKit

def allB : Nat → List (List Bool)
  | 0 => [[]]
  | n + 1 => (allB n).flatMap fun l => [true :: l, false :: l]
theorem mem_allB : ∀ (l : List Bool), l ∈ allB l.length
  | [] => by simp [allB]
  | b :: l => by
    simp only [List.length_cons, allB, List.mem_flatMap]
    exact ⟨l, mem_allB l, by cases b <;> simp⟩
/-- The listed ones: l says which of the first ones have come, the others have not. -/
def lstB (N mm : Nat) (l : List Bool) : Array Bool := (l ++ List.replicate (N - mm) false).toArray
def closedB (ops : Array Oper) (mm : Nat) (l : List Bool) : Bool := (List.range mm).all fun i => !(l.getD i false) || (match ops[i]? with | some o => o.after.toList.all (fun e => !(Region.binds .any e) || l.getD e.on false) | none => true)
def readsB (ops : Array Oper) (mm : Nat) : Bool := decide (mm ≤ ops.size) && (allB mm).all fun l => !(closedB ops mm l) || l.all id || (!(Region.ready .any ops (lstB ops.size mm l)).isEmpty && (Region.ready .any ops (lstB ops.size mm l)).all (fun i => decide (i < mm)))
theorem readsB_at {ops : Array Oper} {mm : Nat} (h : readsB ops mm = true) {l : List Bool} (hl : l.length = mm) (hc : closedB ops mm l = true) (hn : l.all id = false) : Region.ready .any ops (lstB ops.size mm l) ≠ [] ∧ ∀ i ∈ Region.ready .any ops (lstB ops.size mm l), i < mm := by
  unfold readsB at h
  rw [Bool.and_eq_true, List.all_eq_true] at h
  have h1 := h.2 l (by rw [← hl]; exact mem_allB l)
  rw [hc, hn] at h1
  simp at h1
  exact ⟨h1.1, h1.2⟩
theorem lst_getD {N mm : Nat} {l : List Bool} (hl : l.length = mm) (i : Nat) : (lstB N mm l).getD i false = l.getD i false := by
  unfold lstB
  rw [Array.getD_eq_getD_getElem?]
  simp only [List.getElem?_toArray, List.getElem?_append, List.getD_eq_getElem?_getD]
  split
  · rfl
  · rw [List.getElem?_replicate]
    rw [List.getElem?_eq_none (by omega)]
    split <;> rfl
theorem lst_set {N mm : Nat} {l : List Bool} (hl : l.length = mm) {i : Nat} (hi : i < mm) : (lstB N mm l).setIfInBounds i true = lstB N mm (l.set i true) := by
  unfold lstB
  simp [List.set_append, hl, hi]
end Go.Proofs.YtplieplmhdfndaaGreatDoor

namespace Go.Proofs.YtplieplmhdfndaaGreatDoor
set_option linter.unusedVariables false
set_option linter.unusedSimpArgs false
open Go.RowKit Go.Shelf
attribute [local go_sem] Oper.semAt_some

/-- The marks that ranges over functions left. -/
def Mks (Ds : List Nat) (W : World) : Prop := ∀ D ∈ Ds, W.heap[D]? = some (.deferred (some []))
def mksD (Ds : List Nat) : List Deferred := Ds.map fun D => { target := .collected D, args := #[] }
theorem Mks.keep {Ds : List Nat} {W W' : World} (h : Mks Ds W) (hk : KeepsOthers W W') : Mks Ds W' := fun D hD => hk.same D _ (h D hD) rfl
theorem Mks.grown {Ds : List Nat} {W W' : World} {row : Option Nat} {B : Nat} (h : Mks Ds W) (hl : ∀ D ∈ Ds, D < B) (hg : W.grownBy W' row) (hr : ∀ r, row = some r → B ≤ r) : Mks Ds W' := fun D hD =>
  (hg.block D (Array.getElem?_eq_some_iff.1 (h D hD)).1 (fun e => by have := hr D e.symm; have := hl D hD; omega)).trans (h D hD)
theorem leaves_marks {F : Fence} {n : Nat} {P : Program} {fn : Func} {tmps : Array Value} {R : Ending → World → Prop} (m : Nat) : ∀ (Ds : List Nat) (W : World), Mks Ds W → Ds.Nodup → (∀ D ∈ Ds, m ≤ D) → (∀ W', Below m W W' → (∀ k, k ∉ Ds → W'.heap[k]? = W.heap[k]?) → LeavesIn F n P fn tmps R [] .returning W') → LeavesInM F n P fn tmps R (mksD Ds) .returning W
  | [], W, _, _, _, h => h W (Below.refl _ _) (fun _ _ => rfl)
  | D :: Ds, W, hM, hN, hl, h => by
    have hD := hM D (by simp)
    have hlt : D < W.heap.size := (Array.getElem?_eq_some_iff.1 hD).1
    refine ⟨by simp, .inl ⟨D, W.putObj D (.deferred none), rfl, run_takeDeferred hD, leaves_marks m Ds _ (fun D' h' => ?_) (List.nodup_cons.1 hN).2 (fun D' h' => hl D' (by simp [h'])) (fun W' hb hk => h W' ?_ (fun k hk' => ?_))⟩⟩
    · refine (World.putObj_heap_other (fun e => ?_)).trans (hM D' (by simp [h']))
      subst e
      exact (List.nodup_cons.1 hN).1 h'
    · exact ((Below.refl m W).grown (grownBy_putObj' W D _) (Nat.le_trans (hl D (by simp)) (Nat.le_of_lt hlt)) (fun k e => by cases e; exact hl D (by simp))).trans hb
    · simp only [List.mem_cons, not_or] at hk'
      exact (hk k hk'.2).trans (World.putObj_heap_other hk'.1)
/-- How many of the first k nodes are directories. -/
def dcN (L : List Nd) (k : Nat) : Nat := ((List.range k).filter (kdN L · == 2)).length
theorem dcN_succ (L : List Nd) (k : Nat) : dcN L (k + 1) = dcN L k + (if kdN L k = 2 then 1 else 0) := by
  unfold dcN
  rw [List.range_succ, List.filter_append, List.length_append]
  by_cases h : kdN L k = 2 <;> simp [h]
theorem dcN_le (L : List Nd) (k : Nat) : dcN L k ≤ k := by
  unfold dcN
  have := List.length_filter_le (kdN L · == 2) (List.range k)
  simpa using this
def pvN (ps : Array Value) (i : Nat) : Value := ps.getD i undef
theorem OpP.pv {w : World} {bn : Nat} {L : List Nd} {ps : Array Value} (h : OpP w bn L ps) {i : Nat} (hi : i < L.length) : w.cell? ⟨bn, i, none⟩ = some (pvN ps i) ∧ OpN w (ndAt L i) (pvN ps i) := by
  obtain ⟨p, h1, h2⟩ := h.at_ i hi
  have : pvN ps i = p := by unfold pvN; rw [Array.getD_eq_getD_getElem?, h1]; rfl
  rw [this]
  exact ⟨(h.blk.cell i).trans h1, h2⟩
end Go.Proofs.YtplieplmhdfndaaGreatDoor

namespace Go.Proofs.YtplieplmhdfndaaGreatDoor
set_option linter.unusedVariables false
set_option linter.unusedSimpArgs false
open Go.RowKit

/-- The world by whether number j has come. -/
def wlA (w w1 : World) (j : Nat) (l : List Bool) : World := if l.getD j false = true then w1 else w
theorem wpAnyIn_readsA {F : Fence} {n : Nat} {P : Program} {ops : Array Oper} {Q : Exit → Act → World → Prop} (fs : List (Nat × Value)) (w w1 : World) (j : Nat) (V : Nat → Value) (m : Nat) (ds : List Deferred) (mm : Nat) (hjm : j < mm)
    (hB : rchkB ops m (fs.map (·.1)) = true) (hchk : readsB ops mm = true)
    (hstep : ∀ (i : Nat) (o : Oper) (listed : Array Bool) (a : Act), i < mm → ops[i]? = some o → (∀ e ∈ o.after, Region.binds .any e = true → listed.getD e.on false = true) → ∀ wx, (wx = w ∨ wx = w1) → (i = j → wx = w) → RInv ops fs (fun _ => True) (fun i v _ => v = V i) m ds listed a wx →
      Region.wanted o (yielded ops a.tmps) = true ∧ (∀ c, o.op ≠ .call c) ∧ (∀ c, o.op ≠ .defer c) ∧ (execOp a.eval o).run P wx = .ok (.value (V i)) (if i = j then w1 else wx))
    (hfin : ∀ a, RInv ops fs (fun _ => True) (fun i v _ => v = V i) m ds (lstB ops.size mm (List.replicate mm true)) a w1 → wpAnyIn F n P .any ops Q (ops.size - mm) (lstB ops.size mm (List.replicate mm true)) a w1) :
    ∀ (k : Nat) (l : List Bool) (a : Act), l.length = mm → closedB ops mm l = true → l.count false = k → RInv ops fs (fun _ => True) (fun i v _ => v = V i) m ds (lstB ops.size mm l) a (wlA w w1 j l) → wpAnyIn F n P .any ops Q (k + (ops.size - mm)) (lstB ops.size mm l) a (wlA w w1 j l)
  | 0, l, a, hl, hc, hk, hI => by
    have e : l = List.replicate mm true := by
      rw [List.eq_replicate_iff]
      refine ⟨hl, fun b hb => ?_⟩
      cases b with
      | true => rfl
      | false => exact absurd (List.count_pos_iff.2 hb) (by omega)
    subst e
    have ew : wlA w w1 j (List.replicate mm true) = w1 := by
      unfold wlA
      rw [if_pos (by rw [List.getD_eq_getElem?_getD, List.getElem?_replicate, if_pos hjm]; rfl)]
    rw [ew] at hI ⊢
    rw [Nat.zero_add]
    exact hfin a hI
  | k + 1, l, a, hl, hc, hk, hI => by
    have hn : l.all id = false := by
      have : false ∈ l := List.count_pos_iff.1 (by omega)
      cases e : l.all id with
      | false => rfl
      | true => rw [List.all_eq_true] at e; have := e false this; simp at this
    obtain ⟨hne, hlt⟩ := readsB_at hchk hl hc hn
    rw [show k + 1 + (ops.size - mm) = (k + (ops.size - mm)) + 1 by omega]
    refine ⟨fun h => absurd h hne, fun i hi => ?_⟩
    have him := hlt i hi
    obtain ⟨h0, o, ho, hall⟩ := mem_ready.1 hi
    have hall' : ∀ e ∈ o.after, Region.binds .any e = true → (lstB ops.size mm l).getD e.on false = true := hall
    have hli : l.getD i false = false := by
      have h1 : (lstB ops.size mm l).getD i true = false := h0
      unfold lstB at h1
      rw [Array.getD_eq_getD_getElem?, List.getElem?_toArray, List.getElem?_append_left (by omega), List.getElem?_eq_getElem (by omega)] at h1
      rw [List.getD_eq_getElem?_getD, List.getElem?_eq_getElem (by omega)]
      exact h1
    have hw1 : wlA w w1 j l = w ∨ wlA w w1 j l = w1 := by unfold wlA; split <;> simp
    have hw2 : i = j → wlA w w1 j l = w := fun e => by subst e; unfold wlA; rw [hli]; rfl
    obtain ⟨hwt, hnc, hnd, hrun⟩ := hstep i o _ a him ho hall' _ hw1 hw2 hI
    have hwn : (if i = j then w1 else wlA w w1 j l) = wlA w w1 j (l.set i true) := by
      by_cases e : i = j
      · subst e
        rw [if_pos rfl]
        unfold wlA
        rw [if_pos (by rw [List.getD_eq_getElem?_getD, List.getElem?_set, if_pos rfl, if_pos (by omega)]; rfl)]
      · rw [if_neg e]
        unfold wlA
        rw [List.getD_eq_getElem?_getD, List.getD_eq_getElem?_getD, List.getElem?_set, if_neg e]
    rw [hwn] at hrun
    have hab : o.about P (wlA w w1 j l) a.eval = none := by
      unfold Oper.about
      split
      · rename_i c hc
        exact absurd hc (hnc c)
      · rfl
    unfold wpOpIn
    simp only [ho, hwt, if_true]
    unfold Oper.wpIn
    refine ⟨by simp [hab], ?_⟩
    rw [Oper.semAt_plain F _ _ hnd, hrun]
    show wpAnyIn F n P .any ops Q (k + (ops.size - mm)) ((lstB ops.size mm l).setIfInBounds i true) (a.put o.dst (V i)) (wlA w w1 j (l.set i true))
    rw [lst_set hl him]
    have hget : ∀ j, (lstB ops.size mm (l.set i true)).getD j false = if j = i then true else (lstB ops.size mm l).getD j false := fun j => by
      rw [lst_getD (by simpa using hl), lst_getD hl, List.getD_eq_getElem?_getD, List.getD_eq_getElem?_getD, List.getElem?_set]
      by_cases e : i = j
      · subst e
        rw [if_pos rfl, if_pos (by omega), if_pos rfl]; rfl
      · rw [if_neg e, if_neg (fun h => e h.symm)]
    refine wpAnyIn_readsA fs w w1 j V m ds mm hjm hB hchk hstep hfin k (l.set i true) _ (by simpa using hl) ?_ ?_ ?_
    · unfold closedB at hc ⊢
      rw [List.all_eq_true] at hc ⊢
      intro j hj
      have hcj := hc j hj
      have hset : ∀ x, l.getD x false = true → (l.set i true).getD x false = true := fun x hx => by
        rw [List.getD_eq_getElem?_getD, List.getElem?_set]
        by_cases e : i = x
        · subst e; rw [if_pos rfl, if_pos (by omega)]; rfl
        · rw [if_neg e]; rw [List.getD_eq_getElem?_getD] at hx; exact hx
      by_cases e : j = i
      · subst e
        rw [ho]
        simp only [Bool.or_eq_true, List.all_eq_true]
        refine .inr (fun ed he => ?_)
        cases hbd : Region.binds .any ed with
        | false => simp
        | true =>
          have h5 := hall' ed (Array.mem_toList_iff.1 he) hbd
          rw [lst_getD hl] at h5
          exact .inr (hset _ h5)
      · have hji : (l.set i true).getD j false = l.getD j false := by
          rw [List.getD_eq_getElem?_getD, List.getD_eq_getElem?_getD, List.getElem?_set, if_neg (fun h => e h.symm)]
        rw [hji]
        rw [Bool.or_eq_true] at hcj ⊢
        rcases hcj with h | h
        · exact .inl h
        · refine .inr ?_
          cases hoj : ops[j]? with
          | none => rfl
          | some oj =>
            rw [hoj] at h
            simp only [List.all_eq_true, Bool.or_eq_true] at h ⊢
            intro ed he
            rcases h ed he with h6 | h6
            · exact .inl h6
            · exact .inr (hset _ h6)
    · have hcs : List.count false (l.set i true) + 1 = List.count false l := by
        have hlt2 : i < l.length := by omega
        rw [List.count_set hlt2]
        have hv : l[i] = false := by rw [List.getD_eq_getElem?_getD, List.getElem?_eq_getElem hlt2] at hli; exact hli
        have hp : 0 < l.count false := by omega
        simp [hv]
        omega
      omega
    · cases hd : o.dst with
      | none =>
        refine ⟨hI.sz, hI.df, trivial, fun j oj d hj hl2 hjd => ?_, hI.fix, fun j oj hj hl2 => ⟨_, rfl⟩⟩
        rw [hget] at hl2
        by_cases e : j = i
        · subst e
          rw [ho] at hj
          cases hj
          rw [hd] at hjd
          cases hjd
        · rw [if_neg e] at hl2
          exact hI.vals j oj d hj hl2 hjd
      | some d0 =>
        have hf := (rchkB_at hB ho).2 d0 hd
        have hd0 : d0 < a.tmps.size := by rw [hI.sz]; exact hf.1
        refine ⟨by simp [Act.put, hI.sz], by simpa [Act.put] using hI.df, trivial, fun j oj d hj hl2 hjd => ?_, fun t u htu => ?_, fun j oj hj hl2 => ⟨_, rfl⟩⟩
        · rw [hget] at hl2
          rw [getD_put hd0]
          by_cases e : j = i
          · subst e
            rw [ho] at hj
            cases hj
            rw [hd] at hjd
            cases hjd
            rw [if_pos rfl]
          · rw [if_neg e] at hl2
            have hne2 : d ≠ d0 := fun h => by
              subst h
              rcases Nat.lt_trichotomy j i with h | h | h
              · exact ((rchkB_at hB ho).2 d hd).2.2 j oj h hj hjd
              · exact e h
              · exact ((rchkB_at hB hj).2 d hjd).2.2 i o h ho hd
            rw [if_neg hne2]
            exact hI.vals j oj d hj hl2 hjd
        · rw [getD_put hd0, if_neg (fun h : t = d0 => hf.2.1 (List.mem_map.2 ⟨(t, u), htu, h⟩))]
          exact hI.fix t u htu
/-- From the beginning. -/
theorem wpAnyIn_readsAB {F : Fence} {n : Nat} {P : Program} {ops : Array Oper} {Q : Exit → Act → World → Prop} (fs : List (Nat × Value)) (w w1 : World) (j : Nat) (V : Nat → Value) (m : Nat) (ds : List Deferred) (mm : Nat) (hjm : j < mm)
    (hB : rchkB ops m (fs.map (·.1)) = true) (hchk : readsB ops mm = true)
    (hstep : ∀ (i : Nat) (o : Oper) (listed : Array Bool) (a : Act), i < mm → ops[i]? = some o → (∀ e ∈ o.after, Region.binds .any e = true → listed.getD e.on false = true) → ∀ wx, (wx = w ∨ wx = w1) → (i = j → wx = w) → RInv ops fs (fun _ => True) (fun i v _ => v = V i) m ds listed a wx →
      Region.wanted o (yielded ops a.tmps) = true ∧ (∀ c, o.op ≠ .call c) ∧ (∀ c, o.op ≠ .defer c) ∧ (execOp a.eval o).run P wx = .ok (.value (V i)) (if i = j then w1 else wx))
    (hfin : ∀ a, RInv ops fs (fun _ => True) (fun i v _ => v = V i) m ds (lstB ops.size mm (List.replicate mm true)) a w1 → wpAnyIn F n P .any ops Q (ops.size - mm) (lstB ops.size mm (List.replicate mm true)) a w1)
    (a : Act) (hsz : a.tmps.size = m) (hdf : a.defers = ds) (hf : ∀ t v, (t, v) ∈ fs → a.tmps.getD t undef = v) : wpAnyIn F n P .any ops Q ops.size (Array.replicate ops.size false) a w := by
  have hmm : mm ≤ ops.size := by
    unfold readsB at hchk
    rw [Bool.and_eq_true] at hchk
    exact of_decide_eq_true hchk.1
  have e : Array.replicate ops.size false = lstB ops.size mm (List.replicate mm false) := by
    unfold lstB
    rw [List.replicate_append_replicate, show mm + (ops.size - mm) = ops.size by omega]
    simp
  have h := wpAnyIn_readsA (F := F) (n := n) (P := P) (Q := Q) fs w w1 j V m ds mm hjm hB hchk hstep hfin mm (List.replicate mm false) a (by simp) ?_ (by simp) ⟨hsz, hdf, trivial, fun i o d _ hl _ => ?_, hf, fun i o _ hl => ⟨_, rfl⟩⟩
  · rw [show mm + (ops.size - mm) = ops.size by omega] at h
    rw [e]
    have ew : wlA w w1 j (List.replicate mm false) = w := by
      unfold wlA
      rw [if_neg (by rw [List.getD_eq_getElem?_getD, List.getElem?_replicate]; split <;> simp)]
    rw [ew] at h
    exact h
  · unfold closedB
    rw [List.all_eq_true]
    intro j hj
    have : (List.replicate mm false).getD j false = false := by rw [List.getD_eq_getElem?_getD, List.getElem?_replicate]; split <;> rfl
    rw [this]
    rfl
  · rw [lst_getD (by simp)] at hl
    have : (List.replicate mm false).getD i false = false := by rw [List.getD_eq_getElem?_getD, List.getElem?_replicate]; split <;> rfl
    rw [this] at hl
    cases hl
end Go.Proofs.YtplieplmhdfndaaGreatDoor
