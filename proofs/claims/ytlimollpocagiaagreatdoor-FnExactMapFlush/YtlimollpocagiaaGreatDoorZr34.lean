/- The program's give: the next free block. -/
import Derived.Test.YtlimollpocagiaaGreatDoorZr27
import Derived.Test.YtlimollpocagiaaGreatDoorZr28
import Derived.Test.YtlimollpocagiaaGreatDoorZr19
namespace Go.Proofs.YtlimollpocagiaaGreatDoor
open List (getElem_toArray getElem_cons_zero getElem_cons_succ setIfInBounds_toArray set_cons_zero set_cons_succ)
set_option linter.unusedVariables false
set_option linter.unusedSimpArgs false
open Go.RowKit Go.Shelf
attribute [local go_sem] Oper.semAt_some

/-- The answer of give. -/
def GvR (base b l r n cN : Nat) (R : Nat → Value) (LL : Nat → List Int) (vo : Value) (od : List (Nat × Nat)) (o : Int) (w w' : World) (e : Ending) : Prop :=
  match pickB (LL 1) (LL 0) cN with
  | some p => e = .returned (.bool true) ∧ ∃ C' R' vo', Fl w' base b C' R' (mvL LL l r p o) vo' (od ++ [(l, r)]) (behI n p) ∧ KpF w w' b R vo R' vo'
  | none => e = .returned (.bool false) ∧ Below w.heap.size w w'
theorem gv_some {base b l r n cN p : Nat} {R : Nat → Value} {LL : Nat → List Int} {vo : Value} {od : List (Nat × Nat)} {o : Int} {w w' : World} {e : Ending} (h : pickB (LL 1) (LL 0) cN = some p) (h2 : e = .returned (.bool true) ∧ ∃ C' R' vo', Fl w' base b C' R' (mvL LL l r p o) vo' (od ++ [(l, r)]) (behI n p) ∧ KpF w w' b R vo R' vo') : GvR base b l r n cN R LL vo od o w w' e := by unfold GvR; rw [h]; exact h2
theorem gv_none {base b l r n cN : Nat} {R : Nat → Value} {LL : Nat → List Int} {vo : Value} {od : List (Nat × Nat)} {o : Int} {w w' : World} {e : Ending} (h : pickB (LL 1) (LL 0) cN = none) (h2 : e = .returned (.bool false) ∧ Below w.heap.size w w') : GvR base b l r n cN R LL vo od o w w' e := by unfold GvR; rw [h]; exact h2
theorem pick_frees (ws bf : List Int) (c : Nat) : pickB ws bf c = ((freesM ws c).find? (fun x => decide (bf.getD x.toNat 0 = 0))).map Int.toNat := by
  unfold pickB freesM freesTo isFree
  conv => rhs; rw [List.find?_map, List.find?_filter, Option.map_map]
  have e : (Int.toNat ∘ fun b : Nat => (b : Int)) = id := by funext b; simp
  rw [e, Option.map_id]
  simp [Function.comp_def]
theorem find_pre {α : Type} {q : α → Bool} {pre : List α} {x : α} {L : List α} (h : pre ++ [x] <+: L) (h1 : ∀ y ∈ pre, q y = false) (h2 : q x = true) : L.find? q = some x := by
  obtain ⟨t, rfl⟩ := h
  rw [List.append_assoc, List.find?_append, List.find?_eq_none.2 (fun y hy => by rw [h1 y hy]; decide)]
  simp [h2]
theorem Fl.abide {A B : World} {row : Option Nat} {z base b : Nat} {C : Array Value} {R : Nat → Value} {LL : Nat → List Int} {vo : Value} {od : List (Nat × Nat)} {cu : Int} (h : Fl A base b C R LL vo od cu) (hg : A.grownBy B row) (hr : ∀ r, row = some r → z ≤ r ∧ ∃ o, A.heap[r]? = some o ∧ o.isCells = false) : Fl B base b C R LL vo od cu := by
  have key : ∀ {k : Nat} {C : Array Value} {t : TypeId}, A.heap[k]? = some (.cells C t (0, 0)) → B.heap[k]? = A.heap[k]? := fun {k C t} hk => by
    refine hg.block k (Array.getElem?_eq_some_iff.1 hk).1 (fun e => ?_)
    obtain ⟨_, o, h1, h2⟩ := hr k e.symm
    rw [hk] at h1
    cases h1
    cases h2
  have keyO : ∀ {base n sz : Nat} {e : TypeId} {v : Value} {xs : List Value}, A.ownsRow base e sz v n xs → B.ownsRow base e sz v n xs := fun {base n sz e v xs} ho => own_kept ho (fun k hk => by
    rcases ho.2 with ⟨rfl, _⟩ | ⟨g, cap, cur, rfl, _, hgg, _⟩
    · cases hk
    · obtain rfl : g = k := by simpa [Value.ownBlock] using hk
      exact key hgg)
  exact ⟨(key h.box).trans h.box, h.at_, fun j hj => keyO (h.row j hj), h.apart, h.ord, keyO h.orow, h.cur⟩
theorem KpF.abide {w A B : World} {row : Option Nat} {z b : Nat} {R R' : Nat → Value} {vo vo' : Value} (h : KpF w A b R vo R' vo') (hg : A.grownBy B row) (hr : ∀ r, row = some r → z ≤ r ∧ ∃ o, A.heap[r]? = some o ∧ o.isCells = false) (hz : w.heap.size ≤ z) : KpF w B b R vo R' vo' :=
  ⟨hg.os.trans h.os, hg.tape.trans h.tape, hg.output.trans h.output, Nat.le_trans h.size hg.size, fun k hk hn => (hg.block k (Nat.lt_of_lt_of_le hk h.size) (fun e => by have := (hr k e.symm).1; omega)).trans (h.block k hk hn), h.own⟩
theorem KpF.keeps {w w' : World} {base b : Nat} {C : Array Value} {R R' : Nat → Value} {LL : Nat → List Int} {vo vo' : Value} {od : List (Nat × Nat)} {cu : Int} (h : KpF w w' b R vo R' vo') (hf : Fl w base b C R LL vo od cu) (z : Nat) : KeepsFrom z w w' := by
  refine ⟨h.size, fun k o _ hk ho => (h.block k (Array.getElem?_eq_some_iff.1 hk).1 (fun hw => ?_)).trans hk⟩
  have key : ∀ {C : Array Value} {t : TypeId}, w.heap[k]? = some (.cells C t (0, 0)) → False := fun {C t} h2 => by
    rw [hk] at h2
    cases h2
    cases ho
  have keyO : ∀ {base n sz : Nat} {e : TypeId} {v : Value} {xs : List Value}, w.ownsRow base e sz v n xs → v.ownBlock = some k → False := fun {base n sz e v xs} hr hv => by
    rcases hr.2 with ⟨rfl, _⟩ | ⟨g, cap, cur, rfl, _, hgg, _⟩
    · cases hv
    · obtain rfl : g = k := by simpa [Value.ownBlock] using hv
      exact key hgg
  rcases hw with rfl | ⟨j, hj, e⟩ | e
  · exact key hf.box
  · exact keyO (hf.row j hj) e
  · exact keyO hf.orow e
/-- Between two rounds. -/
structure Igv (w : World) (b l r n : Nat) (bf : List Int) (wv : Value) (pre : List Int) (W : World) : Prop where
  old : Below w.heap.size w W
  ptr : Blk W w.heap.size #[.pointer (some ⟨b, 0, none⟩)] 60
  spot : Blk W (w.heap.size + 1) #[.int .i64 (l : Int), .int .i64 (r : Int)] 123
  res : Blk W (w.heap.size + 2) #[.bool false] 4
  capt : Boxed W (w.heap.size + 3) 29 wv
  none_ : ∀ y ∈ pre, bf.getD y.toNat 0 ≠ 0
  size : w.heap.size + 5 ≤ W.heap.size
theorem Igv.own {w : World} {b l r n : Nat} {bf : List Int} {wv : Value} {n₁ : Nat} (hn : n₁ = w.heap.size + 5) : OwnFrom n₁ (Igv w b l r n bf wv) := by
  intro pre X Y row hs hg hr
  have hb : ∀ k, k < n₁ → Y.heap[k]? = X.heap[k]? := fun k hk => by
    have h1 := hs.size
    exact hg.block k (by omega) (fun e => by have := (hr k e.symm).1; omega)
  exact ⟨hs.old.grown hg hs.old.size (fun k e => by have := (hr k e).1; omega), (hb _ (by omega)).trans hs.ptr, (hb _ (by omega)).trans hs.spot, (hb _ (by omega)).trans hs.res, (hb _ (by omega)).trans hs.capt, hs.none_, Nat.le_trans hs.size hg.size⟩
/-- Behind the round that found one. -/
structure Xgv (w : World) (base b l r n : Nat) (R : Nat → Value) (LL : Nat → List Int) (vo : Value) (od : List (Nat × Nat)) (o : Int) (pre : List Int) (W : World) : Prop where
  ex : ∃ pre' x, pre = pre' ++ [x] ∧ (∀ y ∈ pre', (LL 0).getD y.toNat 0 ≠ 0) ∧ (LL 0).getD x.toNat 0 = 0 ∧ ∃ C' R' vo', Fl W base b C' R' (mvL LL l r x.toNat o) vo' (od ++ [(l, r)]) (behI n (x.toNat : Int)) ∧ KpF w W b R vo R' vo'
  res : Blk W (w.heap.size + 2) #[.bool true] 4
  size : w.heap.size + 5 ≤ W.heap.size
theorem Xgv.own {w : World} {base b l r n : Nat} {R : Nat → Value} {LL : Nat → List Int} {vo : Value} {od : List (Nat × Nat)} {o : Int} {n₁ : Nat} (hn : n₁ = w.heap.size + 5) : OwnFrom n₁ (Xgv w base b l r n R LL vo od o) := by
  intro pre X Y row hs hg hr
  obtain ⟨pre', x, h1, h2, h3, C', R', vo', h4, h5⟩ := hs.ex
  have h6 := hs.size
  refine ⟨⟨pre', x, h1, h2, h3, C', R', vo', h4.abide hg hr, h5.abide hg hr (by omega)⟩, (hg.block _ (by omega) (fun e => by have := (hr _ e.symm).1; omega)).trans hs.res, Nat.le_trans hs.size hg.size⟩
theorem results_boolC {fn : Func} {p : Tmp} (h : fn.results = #[.cell p 4]) (tmps : Array Value) (w : World) (g : Nat) (x : Bool) (hp : tmps.getD p undef = .pointer (some ⟨g, 0, none⟩)) (hg : Blk w g #[.bool x] 4) : (results fn tmps).run Tryz.prog w = .ok (.bool x) w := by
  have hc := (hg.cell 0).trans (show _ = some (.bool x) from rfl)
  have hp' : tmps[p]?.getD undef = .pointer (some ⟨g, 0, none⟩) := by rw [← Array.getD_eq_getD_getElem?]; exact hp
  simp only [results, h]
  go_simp
set_option maxRecDepth 100000 in
set_option maxHeartbeats 4000000 in
theorem give_any (base b l r n cN : Nat) (C : Array Value) (R : Nat → Value) (LL : Nat → List Int) (vo : Value) (od : List (Nat × Nat)) (w : World) (h : Fl w base b C R LL vo od (cN : Int)) (hl : l < 2) (hr : r ≤ 700) (hnn : n = (LL 1).length) (hbf : (LL 0).length = n) (hc : 2 ≤ cN ∧ cN < n) (hn : n ≤ 2048) (hL : (LL (5 + l)).length ≤ 100001) (hod : od.length ≤ 1000) (hbs : base ≤ w.heap.size) (o : Int) (ho : o = (LL (2 + l)).getD r 0) (ho2 : 0 ≤ o ∧ o < n) (hwr : ∀ z ∈ LL 1, 0 ≤ z ∧ z < 4294967296) :
    Calls Tryz.prog 67 #[.pointer (some ⟨b, 0, none⟩), spotV l r] w fun e w' => GvR base b l r n cN R LL vo od o w w' e := by
  obtain ⟨W0, hW0⟩ : ∃ W0, W0 = (((w.alloc (.cells #[.pointer (some ⟨b, 0, none⟩)] 60)).alloc (.cells #[.int .i64 (l : Int), .int .i64 (r : Int)] 123)).alloc (.cells #[.bool false] 4)) := ⟨_, rfl⟩
  have hs0 : W0.heap.size = w.heap.size + 3 := by rw [hW0]; simp
  have B0 := hide (show Below w.heap.size w W0 from by rw [hW0]; exact (((Below.refl _ _).alloc (Nat.le_refl _) _).alloc (by simp) _).alloc (by simp; omega) _)
  have K0 := hide (show Blk W0 w.heap.size #[.pointer (some ⟨b, 0, none⟩)] 60 from by rw [hW0]; exact ((Blk.new w _ _).alloc _).alloc _)
  have K1 := hide (show Blk W0 (w.heap.size + 1) #[.int .i64 (l : Int), .int .i64 (r : Int)] 123 from by rw [hW0]; have h := (Blk.new (w.alloc (.cells #[.pointer (some ⟨b, 0, none⟩)] 60)) #[.int .i64 (l : Int), .int .i64 (r : Int)] 123).alloc (.cells #[.bool false] 4); simpa using h)
  have K2 := hide (show Blk W0 (w.heap.size + 2) #[.bool false] 4 from by rw [hW0]; have h := (Blk.new ((w.alloc (.cells #[.pointer (some ⟨b, 0, none⟩)] 60)).alloc (.cells #[.int .i64 (l : Int), .int .i64 (r : Int)] 123)) #[.bool false] 4); simpa using h)
  have HW0 := hide hW0
  have HS0 := hide hs0
  have F0 := hide (h.below B0.out)
  have HF := hide h
  have HH := hide (And.intro hl (And.intro hr (And.intro hnn (And.intro hbf (And.intro hL (And.intro hod (And.intro hbs (And.intro ho hwr))))))))
  obtain ⟨g, gc, hR1, hg, x1, hx⟩ := HF.out.wrow (by rw [← hnn]; omega)
  rw [← hnn] at hR1 x1 hx
  have hgl : g < w.heap.size := ((HF.out.row 1 (by omega)).lt g hg).2
  have e1 := F0.out.at_ 1 (by omega)
  rw [hR1] at e1
  have HC := hide (show ∀ w', Blk w' b C 113 → w'.cell? ⟨b, 1, none⟩ = some (.slice (some ⟨g, 0, none⟩) n gc) ∧ w'.cell? ⟨b, 9, none⟩ = some (.int .i64 (cN : Int)) from fun w' hw => ⟨(hw.cell 1).trans e1, (hw.cell 9).trans F0.out.cur⟩)
  have HX := hide hx
  clear hW0 hs0 h hl hr hnn hL hod hbs ho hwr hbf hR1 hg x1 hx e1
  obtain ⟨W1, hW1⟩ : ∃ W1, W1 = (W0.drew.alloc (.cells #[.slice (some ⟨g, 0, none⟩) n gc] 29)).alloc (.cells #[.int .i64 (cN : Int)] 3) := ⟨_, rfl⟩
  have hsz : W1.heap.size = w.heap.size + 5 := by rw [hW1]; simp [HS0.out]
  have B1 := hide (show Below W0.heap.size W0 W1 from by rw [hW1]; exact (((Below.refl _ _).drew).alloc (Nat.le_refl _) _).alloc (by simp) _)
  have X2 := hide (show Boxed W1 (w.heap.size + 3) 29 (.slice (some ⟨g, 0, none⟩) n gc) from by rw [hW1, ← HS0.out]; exact (Boxed.new W0.drew _ _).alloc _)
  have X1 := hide (show Boxed W1 (w.heap.size + 4) 3 (.int .i64 (cN : Int)) from by
    have h := Boxed.new (W0.drew.alloc (.cells #[.slice (some ⟨g, 0, none⟩) n gc] 29)) 3 (.int .i64 (cN : Int))
    rw [World.size_alloc] at h
    rw [hW1]
    have e : W0.drew.heap.size = w.heap.size + 3 := HS0.out
    rw [e] at h
    exact h)
  have HW1 := hide hW1
  have HSZ := hide hsz
  clear hW1
  have hs0 := HS0.out
  have I0 := hide (show Igv w b l r n (LL 0) (.slice (some ⟨g, 0, none⟩) n gc) [] W1 from ⟨B0.out.trans (B1.out.mono (by omega)), K0.out.below B1.out K0.out.lt, K1.out.below B1.out K1.out.lt, K2.out.below B1.out K2.out.lt, X2.out, (fun y hy => by cases hy), by omega⟩)
  clear hs0
  refine (callsIn_wide (n := 6)).1 ?_
  refine callsIn_of_wp_marks Tryz.func67 rfl trivial ?_ rfl
  simp only [Tryz.ntmps67, List.size_toArray, List.length_cons, List.length_nil, Nat.reduceAdd, Nat.reduceSub, Array.replicate_succ, Array.replicate_zero, List.push_toArray, List.append_toArray, List.nil_append, List.cons_append]
  unfold spotV
  gi_upto_region 1 with fail
  rw [← HW0.out]
  refine wpIn_wide.2 ?_
  refine wp_region_noPanic ?_
  refine wp_region_held_drew (S := fun w' => Blk w' w.heap.size #[.pointer (some ⟨b, 0, none⟩)] 60 ∧ Blk w' b C 113) (by kernel_rfl) ⟨K0.out, F0.out.box⟩ (fun hH => ?_)
  refine wpAnyH_take (i := 0) (oi := _) (v := .pointer (some ⟨b, 0, none⟩)) rfl (by kernel_rfl) (by kernel_rfl) (by kernel_rfl) (fun _ _ _ h => h) (Or.inl ⟨by rfl, fun w' hw' => by have hc := (Blk.cell hw'.1 0).trans (show _ = some (.pointer (some ⟨b, 0, none⟩)) from rfl); clear hw'; go_simp⟩) hH ?_
  try simp only [Act.put, getElem_toArray, getElem_cons_zero, getElem_cons_succ, setIfInBounds_toArray, set_cons_zero, set_cons_succ]
  refine wpAnyH_take (i := 1) (oi := _) (v := .pointer (some ⟨b, 0, none⟩)) rfl (by kernel_rfl) (by kernel_rfl) (by kernel_rfl) (fun _ _ _ h => h) (Or.inl ⟨by rfl, fun w' hw' => by go_simp⟩) hH ?_
  try simp only [Act.put, getElem_toArray, getElem_cons_zero, getElem_cons_succ, setIfInBounds_toArray, set_cons_zero, set_cons_succ]
  refine wpAnyH_take (i := 2) (oi := _) (v := .pointer (some ⟨b, 1, none⟩)) rfl (by kernel_rfl) (by kernel_rfl) (by kernel_rfl) (fun _ _ _ h => h) (Or.inl ⟨by rfl, fun w' hw' => by go_simp⟩) hH ?_
  try simp only [Act.put, getElem_toArray, getElem_cons_zero, getElem_cons_succ, setIfInBounds_toArray, set_cons_zero, set_cons_succ]
  refine wpAnyH_take (i := 3) (oi := _) (v := .slice (some ⟨g, 0, none⟩) n gc) rfl (by kernel_rfl) (by kernel_rfl) (by kernel_rfl) (fun _ _ _ h => h) (Or.inl ⟨by rfl, fun w' hw' => by have hc := (HC.out w' hw'.2).1; clear hw'; go_simp⟩) hH ?_
  try simp only [Act.put, getElem_toArray, getElem_cons_zero, getElem_cons_succ, setIfInBounds_toArray, set_cons_zero, set_cons_succ]
  refine wpAnyH_take (i := 4) (oi := _) (v := .pointer (some ⟨b, 0, none⟩)) rfl (by kernel_rfl) (by kernel_rfl) (by kernel_rfl) (fun _ _ _ h => h) (Or.inl ⟨by rfl, fun w' hw' => by have hc := (Blk.cell hw'.1 0).trans (show _ = some (.pointer (some ⟨b, 0, none⟩)) from rfl); clear hw'; go_simp⟩) hH ?_
  try simp only [Act.put, getElem_toArray, getElem_cons_zero, getElem_cons_succ, setIfInBounds_toArray, set_cons_zero, set_cons_succ]
  refine wpAnyH_take (i := 5) (oi := _) (v := .pointer (some ⟨b, 0, none⟩)) rfl (by kernel_rfl) (by kernel_rfl) (by kernel_rfl) (fun _ _ _ h => h) (Or.inl ⟨by rfl, fun w' hw' => by go_simp⟩) hH ?_
  try simp only [Act.put, getElem_toArray, getElem_cons_zero, getElem_cons_succ, setIfInBounds_toArray, set_cons_zero, set_cons_succ]
  refine wpAnyH_take (i := 6) (oi := _) (v := .pointer (some ⟨b, 9, none⟩)) rfl (by kernel_rfl) (by kernel_rfl) (by kernel_rfl) (fun _ _ _ h => h) (Or.inl ⟨by rfl, fun w' hw' => by go_simp⟩) hH ?_
  try simp only [Act.put, getElem_toArray, getElem_cons_zero, getElem_cons_succ, setIfInBounds_toArray, set_cons_zero, set_cons_succ]
  refine wpAnyH_take (i := 7) (oi := _) (v := .int .i64 (cN : Int)) rfl (by kernel_rfl) (by kernel_rfl) (by kernel_rfl) (fun _ _ _ h => h) (Or.inl ⟨by rfl, fun w' hw' => by have hc := (HC.out w' hw'.2).2; clear hw'; go_simp⟩) hH ?_
  try simp only [Act.put, getElem_toArray, getElem_cons_zero, getElem_cons_succ, setIfInBounds_toArray, set_cons_zero, set_cons_succ]
  refine wpAnyH_ready (rs := [8]) (by kernel_rfl) (by simp) ?_
  refine AllReadyH.cons (o := _) rfl ?_ AllReadyH.nil
  intro K hK
  go_simp
  refine (callsIn_wide.1 (free_in 0 (.slice (some ⟨g, 0, none⟩) n gc) (cN : Int) W0.drew (some ⟨g, 0, none⟩) n gc rfl)).mono ?_
  rintro e w' ⟨rfl, rfl⟩
  rw [← HW1.out, show W0.drew.heap.size = w.heap.size + 3 from HS0.out]
  refine hK.out _ _ ⟨K0.out.below B1.out K0.out.lt, F0.out.box.below B1.out F0.out.box.lt⟩ (fun hH => ?_)
  clear hK K
  try simp only [Act.put, getElem_toArray, getElem_cons_zero, getElem_cons_succ, setIfInBounds_toArray, set_cons_zero, set_cons_succ]
  refine wpAnyH_done (by kernel_rfl) (NoPanic.normal ?_) _
  clear hH
  gi_wp2
  have hX2 := hide (show Boxed W1 (w.heap.size + 3) 29 (.slice (some ⟨g, 0, none⟩) (LL 1).length gc) ∧ ∀ i, i < (LL 1).length → W1.cell? ⟨g, 0 + i, none⟩ = some (.int .i64 ((LL 1).getD i 0)) from by
    have hn1 := HH.out.2.2.1
    refine ⟨by rw [← hn1]; exact X2.out, fun i hi => ?_⟩
    rw [Nat.zero_add]
    exact (I0.out.old.cell (p := ⟨g, i, none⟩) hgl).trans (HX.out i (by rw [hn1]; exact hi)).1)
  have hmx : Tryz.prog.follows .mixedOrders = true := by kernel_rfl
  refine wpIn_rangeFunc_ownG rfl (by omega) (gf := 115) (lb := #[.pointer (some ⟨w.heap.size + 3 + 1, 0, none⟩), .pointer (some ⟨w.heap.size + 3, 0, none⟩)]) rfl trivial (enters_of Tryz.func115 (by kernel_rfl) rfl)
    (free_stopsB 5 (by omega) (w.heap.size + 4) (w.heap.size + 3) w.heap.size (LL 1) cN g 0 gc (by omega) (by have := HH.out.2.2.1; omega) (by have := HH.out.2.2.1; omega) hgl W1 (by omega) X1.out hX2.out.1 hX2.out.2) Kf.trans (Kf_b (by omega) (by omega)) (Below.refl _ _) (fun _ => rfl)
    (fun pre W => Igv w b l r n (LL 0) (.slice (some ⟨g, 0, none⟩) n gc) (pre.map (·.1)) W) (fun cd pre W => cd = .ret ∧ Xgv w base b l r n R LL vo od o (pre.map (·.1)) W)
    (by rw [hsz]; intro pre X Y row hs hg hr; exact Igv.own rfl _ X Y row hs hg hr) (by rw [hsz]; rintro cd pre X Y row ⟨h1, h2⟩ hg hr; exact ⟨h1, Xgv.own rfl _ X Y row h2 hg hr⟩) I0.out
    (fun x => { tmps := #[.pointer (some ⟨b, 0, none⟩), .agg #[.int .i64 (l : Int), .int .i64 (r : Int)], .pointer (some ⟨w.heap.size, 0, none⟩), .pointer (some ⟨w.heap.size + 1, 0, none⟩), .pointer (some ⟨w.heap.size + 1 + 1, 0, none⟩), .int .i64 x.1, .pointer (some ⟨b, 0, none⟩), .pointer (some ⟨b, 0, none⟩), .pointer (some ⟨b, 1, none⟩), .slice (some ⟨g, 0, none⟩) n gc, .pointer (some ⟨b, 0, none⟩), .pointer (some ⟨b, 0, none⟩), .pointer (some ⟨b, 9, none⟩), .int .i64 (cN : Int), .func (.func 115) #[] #[.pointer (some ⟨w.heap.size + 3 + 1, 0, none⟩), .pointer (some ⟨w.heap.size + 3, 0, none⟩)], .int .i64 x.1, undef, undef, undef, undef, undef, undef, undef, undef, undef, undef, undef, undef], defers := [] }) ?assign ?body ?done ?stop
  case assign =>
    intro l' x W K hK
    gi_wp2
    exact hK
  case body =>
    rintro l' pre x W hI hlt
    have hx := x.2
    have hx3 : x.1 < (n : Int) := by rw [HH.out.2.2.1]; exact hx.2
    obtain ⟨p, hp0⟩ : ∃ p : Nat, x.1 = (p : Int) := ⟨x.1.toNat, by omega⟩
    have hp : 2 ≤ p ∧ p < n := by omega
    clear hx hx3
    simp only [hp0]
    have HP0 := hide hp0
    clear hp0
    have cP := (hI.ptr.cell 0).trans (show _ = some (.pointer (some ⟨b, 0, none⟩)) from rfl)
    obtain ⟨a0, c0, e0r, e0, hr0⟩ := HF.out.rd 0 (by omega)
    rw [HH.out.2.2.2.1] at e0 hr0
    have HFW := hide (HF.out.below hI.old)
    obtain ⟨b0, off0, c0', ea, hb0, _, _, hcl⟩ := hr0.partsC (by rw [HH.out.2.2.2.1]; omega)
    injection ea with ea1 ea2 ea3
    subst ea1
    subst ea3
    have cB : W.cell? ⟨b, 0, none⟩ = some (.slice (some ⟨b0, off0, none⟩) n c0) := (HFW.out.box.cell 0).trans e0
    have cX : W.cell? ⟨b0, off0 + p, none⟩ = some (.int .i64 ((LL 0).getD p 0)) := (hI.old.cell (p := ⟨b0, off0 + p, none⟩) hb0).trans (hcl p (by rw [HH.out.2.2.2.1]; exact hp.2))
    have HI := hide hI
    have rS := hide (rangeSp hI.spot)
    obtain ⟨z, hz⟩ : ∃ z, z = (LL 0).getD p 0 := ⟨_, rfl⟩
    rw [← hz] at cX
    have HZ := hide hz
    clear e0r e0 hr0 hcl ea2 hb0 hI hz hlt
    by_cases hz0 : z = 0
    · have hzb : (z == 0) = true := by simpa using hz0
      gi_wp2_with (first | (refine wpListIn_load_mid rfl 123 _ rfl (w.heap.size + 1) 0 rfl [.int .i64 (l : Int), .int .i64 (r : Int)] _ rS.out Tryz.underlying123 rfl infoSp ?_) | (refine ⟨trivial, ?_⟩; gi_at_call 100; fail))
      refine ⟨trivial, ?_⟩
      refine (CallsIn.inRound l' (callsIn_wide.2 (move_any base b l r p C R LL vo od (cN : Int) W HFW.out HH.out.1 HH.out.2.1 n HH.out.2.2.1 hp hn HH.out.2.2.2.2.1 HH.out.2.2.2.2.2.1 (Nat.le_trans HH.out.2.2.2.2.2.2.1 HI.out.old.size) o HH.out.2.2.2.2.2.2.2.1 ho2 HH.out.2.2.2.2.2.2.2.2))).mono ?_
      rintro e W2 ⟨rfl, C', R', vo', hF2, hk2⟩
      have hno : ¬ ownF b R vo (w.heap.size + 2) := fun ho => by have := HF.out.lt ho; omega
      have hrs : Blk W2 (w.heap.size + 2) #[.bool false] 4 := (hk2.block _ HI.out.res.lt hno).trans HI.out.res
      have c4 := (hrs.cell 0).trans (show _ = some (.bool false) from rfl)
      have f4 := hrs.frozen 0
      have hkW : KpF w W2 b R vo R' vo' := (KpF.of_below b R vo HI.out.old).trans hk2
      have hsF : ¬ ownF b R' vo' (w.heap.size + 2) := fun ho => by
        rcases hk2.own _ ho with h5 | h5
        · exact hno h5
        · have := HI.out.res.lt; omega
      have HD := hide (And.intro hF2 (And.intro hk2 (And.intro hkW (And.intro hrs hsF))))
      clear hF2 hk2 hkW hno hrs hsF
      gi_wp2
      have hcell : ∀ k, k ≠ w.heap.size + 2 → (W2.setCell ⟨w.heap.size + 2, 0, none⟩ (.bool true)).heap[k]? = W2.heap[k]? := fun k hk => Below.heap_setCell W2 ⟨w.heap.size + 2, 0, none⟩ _ k (fun e => hk e)
      have hF3 : Fl (W2.setCell ⟨w.heap.size + 2, 0, none⟩ (.bool true)) base b C' R' (mvL LL l r p o) vo' (od ++ [(l, r)]) (behI n p) :=
        ⟨(hcell b (fun e => HD.out.2.2.2.2 (.inl e.symm))).trans HD.out.1.box, HD.out.1.at_, fun j hj => own_kept (HD.out.1.row j hj) (fun k hk => hcell k (fun e => HD.out.2.2.2.2 (.inr (.inl ⟨j, hj, by rw [hk, e]⟩)))), HD.out.1.apart, HD.out.1.ord, own_kept HD.out.1.orow (fun k hk => hcell k (fun e => HD.out.2.2.2.2 (.inr (.inr (by rw [hk, e]))))), HD.out.1.cur⟩
      have hk3 : KpF w (W2.setCell ⟨w.heap.size + 2, 0, none⟩ (.bool true)) b R vo R' vo' := ⟨HD.out.2.2.1.os, HD.out.2.2.1.tape, HD.out.2.2.1.output, by simp [HD.out.2.2.1.size], fun k hk hn => (hcell k (by omega)).trans (HD.out.2.2.1.block k hk hn), HD.out.2.2.1.own⟩
      refine ⟨(HD.out.2.1.keeps HFW.out _).trans ((KeepsOthers.setCell _ _ _).from _), rfl, ⟨⟨pre.map (·.1), x.1, by simp, HI.out.none_, by rw [HP0.out, Int.toNat_natCast, ← HZ.out]; exact hz0, C', R', vo', ?_, hk3⟩, HD.out.2.2.2.1.set 0 _, by have := HI.out.size; have := HD.out.2.1.size; simp; omega⟩⟩
      rw [HP0.out, Int.toNat_natCast]
      exact hF3
    · have hzb : (z == 0) = false := by simpa using hz0
      gi_wp2
      refine ⟨KeepsFrom.refl _ _, ⟨Below.refl _ _, rfl⟩, ⟨HI.out.old, HI.out.ptr, HI.out.spot, HI.out.res, HI.out.capt, fun y hy => ?_, HI.out.size⟩⟩
      rw [List.map_append, List.mem_append] at hy
      rcases hy with hy | hy
      · exact HI.out.none_ y hy
      · have e : y = x.1 := by simpa using hy
        rw [e, HP0.out, Int.toNat_natCast, ← HZ.out]
        exact hz0
  case done =>
    rintro D ys W hD hys hI hK
    rw [HSZ.out] at hD
    have HPk := hide (show pickB (LL 1) (LL 0) cN = none from by
      rw [pick_frees, ← hys, Option.map_eq_none_iff, List.find?_eq_none]
      intro x hx
      simpa using hI.none_ x hx)
    have HI := hide (And.intro hI hK)
    have c4 := (hI.res.cell 0).trans (show _ = some (.bool false) from rfl)
    have f4 := hI.res.frozen 0
    clear hI hK hys
    gi_wp2
    have hD2 : (W.setCell ⟨w.heap.size + 2, 0, none⟩ (.bool false)).heap[D]? = some (.deferred (some [])) := (KeepsOthers.setCell _ _ _).same _ _ HI.out.2 rfl
    have hb2 : Below w.heap.size w (W.setCell ⟨w.heap.size + 2, 0, none⟩ (.bool false)) := HI.out.1.old.setCell (p := ⟨w.heap.size + 2, 0, none⟩) (by show w.heap.size ≤ w.heap.size + 2; omega) _
    refine ⟨by simp, .inl ⟨_, _, rfl, run_takeDeferred hD2, ?_⟩⟩
    refine ⟨_, results_boolC rfl _ _ (w.heap.size + 2) false rfl (blk_put _ (HI.out.1.res.set 0 (.bool false)) hD2 rfl), gv_none HPk.out ⟨rfl, ?_⟩⟩
    exact hb2.trans (belowK_b (w := w) (Nat.le_refl _) _ D _ (.deferred none) (by omega) hD2 rfl rfl)
  case stop =>
    rintro D cd pre W hD hSp ⟨rfl, hX⟩ hK
    rw [HSZ.out] at hD
    obtain ⟨pre', x, h1, h2, h3, C', R', vo', h4, h5⟩ := hX.ex
    have HPk := hide (show pickB (LL 1) (LL 0) cN = some x.toNat from by
      rw [pick_frees, find_pre (x := x) (pre := pre') (by rw [← h1]; exact hSp) (fun y hy => by simpa using h2 y hy) (by simpa using h3)]
      rfl)
    have HI := hide (And.intro hX (And.intro hK (And.intro h4 h5)))
    clear hX hK hSp h1 h2 h3 h4 h5
    gi_wp2
    refine ⟨by simp, .inl ⟨_, _, rfl, run_takeDeferred HI.out.2.1, ?_⟩⟩
    refine ⟨_, results_boolC rfl _ _ (w.heap.size + 2) true rfl (blk_put _ HI.out.1.res HI.out.2.1 rfl), gv_some HPk.out ⟨rfl, C', R', vo', ?_, ?_⟩⟩
    · exact HI.out.2.2.1.abide (z := 0) (grownBy_putObj' _ _ _) (fun r e => by cases e; exact ⟨Nat.zero_le _, _, HI.out.2.1, rfl⟩)
    · exact HI.out.2.2.2.abide (z := w.heap.size) (grownBy_putObj' _ _ _) (fun r e => by cases e; exact ⟨by omega, _, HI.out.2.1, rfl⟩) (Nat.le_refl _)
end Go.Proofs.YtlimollpocagiaaGreatDoor
