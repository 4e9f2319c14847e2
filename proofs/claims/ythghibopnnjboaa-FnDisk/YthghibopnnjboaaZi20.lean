/- The model's write, walked : the fuse and the switch set. A region that draws its order and ends in a store: what is held must hold only until the store comes. What kinds of blocks a call may turn. -/
import Derived.Test.YthghibopnnjboaaZi19
import Derived.Test.YthghibopnnjboaaZi01
import Derived.Deep.RegionHeld
namespace Go.Proofs.Ythghibopnnjboaa
set_option linter.unusedVariables false
set_option linter.unusedSimpArgs false
open Go.RowKit

section
variable {W : World} {base d : Nat} {vi vc vw : Value} {I : List Int} {C : List (Nat × List Int)} {cs : List Value} {fuse : Int} {off : Bool} {H : List NE} {hs : List Value}
theorem DvM.setFuse (h : DvM W base d vi vc vw I C cs fuse off H hs) (f : Int) : DvM (W.setCell ⟨d, 2, none⟩ (.int .i64 f)) base d vi vc vw I C cs f off H hs := by
  have n1 : vi.ownBlock ≠ some d := blk_apart h.img h.blk (by decide)
  have n2 : vc.ownBlock ≠ some d := blk_apart h.cac.row h.blk (by decide)
  have n3 : vw.ownBlock ≠ some d := blk_apart h.who.row h.blk (by decide)
  have m2 : ∀ x ∈ cs, x.ownBlock ≠ some d := fun x hx => by
    obtain ⟨j, hj⟩ := List.getElem?_of_mem hx
    have hlt : j < (C.map neW).length := by rw [← h.cac.len]; exact (List.getElem?_eq_some_iff.1 hj).1
    exact blk_apart (h.cac.dat j x _ hj (List.getElem?_eq_getElem hlt)) h.blk (by decide)
  have m3 : ∀ x ∈ hs, x.ownBlock ≠ some d := fun x hx => by
    obtain ⟨j, hj⟩ := List.getElem?_of_mem hx
    have hlt : j < H.length := by rw [← h.who.len]; exact (List.getElem?_eq_some_iff.1 hj).1
    exact blk_apart (h.who.dat j x _ hj (List.getElem?_eq_getElem hlt)) h.blk (by decide)
  exact ⟨h.blk.set 2 _, own_setD h.img n1, ownN_setD h.cac n2 m2, ownN_setD h.who n3 m3, h.ok, h.n1, h.n2⟩
theorem DvM.setOff (h : DvM W base d vi vc vw I C cs fuse off H hs) (t : Bool) : DvM (W.setCell ⟨d, 3, none⟩ (.bool t)) base d vi vc vw I C cs fuse t H hs := by
  have n1 : vi.ownBlock ≠ some d := blk_apart h.img h.blk (by decide)
  have n2 : vc.ownBlock ≠ some d := blk_apart h.cac.row h.blk (by decide)
  have n3 : vw.ownBlock ≠ some d := blk_apart h.who.row h.blk (by decide)
  have m2 : ∀ x ∈ cs, x.ownBlock ≠ some d := fun x hx => by
    obtain ⟨j, hj⟩ := List.getElem?_of_mem hx
    have hlt : j < (C.map neW).length := by rw [← h.cac.len]; exact (List.getElem?_eq_some_iff.1 hj).1
    exact blk_apart (h.cac.dat j x _ hj (List.getElem?_eq_getElem hlt)) h.blk (by decide)
  have m3 : ∀ x ∈ hs, x.ownBlock ≠ some d := fun x hx => by
    obtain ⟨j, hj⟩ := List.getElem?_of_mem hx
    have hlt : j < H.length := by rw [← h.who.len]; exact (List.getElem?_eq_some_iff.1 hj).1
    exact blk_apart (h.who.dat j x _ hj (List.getElem?_eq_getElem hlt)) h.blk (by decide)
  exact ⟨h.blk.set 3 _, own_setD h.img n1, ownN_setD h.cac n2 m2, ownN_setD h.who n3 m3, h.ok, h.n1, h.n2⟩
theorem DvM.there (h : DvM W base d vi vc vw I C cs fuse off H hs) (j : Nat) (hj : j < 5) : (∃ u, W.cell? ⟨d, j, none⟩ = some u) ∧ W.frozen? ⟨d, j, none⟩ = false :=
  ⟨⟨_, (h.blk.cell j).trans (Array.getElem?_eq_getElem (by simp; omega))⟩, h.blk.frozen j⟩
end
end Go.Proofs.Ythghibopnnjboaa

namespace Go.Proofs.Ythghibopnnjboaa
set_option linter.unusedVariables false
set_option linter.unusedSimpArgs false

section
variable {P : Program} {ops : Array Oper} {Q : Exit → Act → World → Prop} {md : Region.Mode} {S : World → Prop} {m : Nat}
/-- Whatever order is picked, and S holds behind every operation until number m has come. -/
def wpAnyL (P : Program) (md : Region.Mode) (ops : Array Oper) (Q : Exit → Act → World → Prop) (S : World → Prop) (m : Nat) : Nat → Array Bool → Act → World → Prop
  | 0, listed, a, w => Region.ready md ops listed = [] ∧ Q .normal a w
  | fuel + 1, listed, a, w =>
    (Region.ready md ops listed = [] → Q .normal a w) ∧
    ∀ i ∈ Region.ready md ops listed, wpOp P ops Q i (fun a' w' => (i ≠ m → S w') ∧ wpAnyL P md ops Q S m fuel (listed.setIfInBounds i true) a' w') a w
theorem wpAny_of_heldL : ∀ (fuel : Nat) (listed : Array Bool) (a : Act) (w : World), wpAnyL P md ops Q S m fuel listed a w → wpAny P md ops Q fuel listed a w
  | 0, _, _, _, h => h
  | fuel + 1, _, _, _, h => ⟨h.1, fun i hi => wpOp_mono (fun a' w' h' => wpAny_of_heldL fuel _ a' w' h'.2) (h.2 i hi)⟩
theorem wpAnyL_first {i : Nat} {oi om : Oper} {v : Value} (hi : ops[i]? = some oi) (hsel : ∀ (j : Nat) (o : Oper) cs b, ops[j]? = some o → o.op ≠ .select cs b)
    (hQ : ∀ c a w, Q (.panic c) (a.put oi.dst v) w → Q (.panic c) a w) (him : i ≠ m) (hom : ops[m]? = some om) (hwait : ∃ e ∈ om.after, Region.binds md e = true ∧ e.on = i) :
    ∀ (fuel : Nat) (listed : Array Bool) (a : Act) (w : World),
      (∀ j oj, ops[j]? = some oj → j ≠ i → listed.getD j true = false → (∀ e ∈ oj.after, Region.binds md e = true → e.on ≠ i) → oi.apart ops oj = true) →
      i ∈ Region.ready md ops listed → YieldsIf P ops S oi v a → S w →
      wpAnyL P md ops Q S m fuel (listed.setIfInBounds i true) (a.put oi.dst v) w → wpAnyL P md ops Q S m (fuel + 1) listed a w := by
  intro fuel
  induction fuel with
  | zero =>
    intro listed a w _ hr hy hS H
    refine ⟨fun h => (by rw [h] at hr; cases hr), fun j hj => ?_⟩
    by_cases hji : j = i
    · subst hji; exact hy.wpOp hi hS ⟨fun _ => hS, H⟩
    · have := ready_mono hj hji
      rw [H.1] at this
      cases this
  | succ fuel ih =>
    intro listed a w hfree hr hy hS H
    refine ⟨fun h => (by rw [h] at hr; cases hr), fun j hj => ?_⟩
    by_cases hji : j = i
    · subst hji; exact hy.wpOp hi hS ⟨fun _ => hS, H⟩
    · have h1 := H.2 j (ready_mono hj hji)
      obtain ⟨hjun, oj, hoj, hall⟩ := mem_ready.1 hj
      have hnot : ∀ e ∈ oj.after, Region.binds md e = true → e.on ≠ i := fun e he hb heq => by
        have h1 := hall e he hb
        have h0 := (mem_ready.1 hr).1
        rw [heq] at h1
        rcases Nat.lt_or_ge i listed.size with h' | h'
        · simp [h'] at h0 h1; rw [h0] at h1; cases h1
        · simp [Array.getElem?_eq_none h'] at h1
      have hjm : j ≠ m := fun e => by
        subst e
        rw [hom] at hoj
        cases hoj
        obtain ⟨e, he, hb, ho⟩ := hwait
        exact hnot e he hb ho
      have h2 := wpOp_putIf hoj (hfree j oj hoj hji hjun hnot) (fun cs b => hsel i oi cs b hi) (fun cs b => hsel j oj cs b hoj) hQ hy h1
      have hfree' : ∀ k ok, ops[k]? = some ok → k ≠ i → (listed.setIfInBounds j true).getD k true = false →
          (∀ e ∈ ok.after, Region.binds md e = true → e.on ≠ i) → oi.apart ops ok = true := fun k ok hk hki hun hno => by
        refine hfree k ok hk hki ?_ hno
        by_cases hjk : j = k
        · subst hjk; exact hjun
        · rw [getD_set_ne true hjk] at hun; exact hun
      refine wpOp_mono (fun a' w' h3 => ⟨h3.2.1, ih (listed.setIfInBounds j true) a' w' hfree' (ready_mono hr (Ne.symm hji)) h3.1 (h3.2.1 hjm) ?_⟩) h2
      rw [Array.setIfInBounds_comm _ _ hji]
      exact h3.2.2
/-- Whether number m waits for number i. -/
def waitsL (md : Region.Mode) (ops : Array Oper) (m i : Nat) : Bool := i != m && (match ops[m]? with | some o => o.after.any (fun e => Region.binds md e && e.on == i) | none => false)
theorem wpAnyL_take {i : Nat} {oi : Oper} {v : Value} {fuel : Nat} {listed : Array Bool} {a : Act} {w : World} (hi : ops[i]? = some oi)
    (hs : Region.noSelect ops = true) (hf : Region.free md ops listed i = true) (hr : (Region.ready md ops listed).contains i = true) (hw : waitsL md ops m i = true)
    (hQ : ∀ c a w, Q (.panic c) (a.put oi.dst v) w → Q (.panic c) a w) (hy : YieldsIf P ops S oi v a) (hS : S w)
    (h : wpAnyL P md ops Q S m fuel (listed.setIfInBounds i true) (a.put oi.dst v) w) : wpAnyL P md ops Q S m (fuel + 1) listed a w := by
  unfold waitsL at hw
  cases hom : ops[m]? with
  | none => rw [hom] at hw; simp at hw
  | some om =>
    rw [hom] at hw
    simp only [Bool.and_eq_true, bne_iff_ne, ne_eq, Array.any_eq_true'] at hw
    obtain ⟨h1, e, he, h2⟩ := hw
    exact wpAnyL_first hi (Region.noSelect_spec hs) hQ h1 hom ⟨e, he, h2.1, by simpa using h2.2⟩ fuel listed a w (Region.free_spec hi hf) (by simpa using hr) hy hS h
theorem wpAnyL_done {listed : Array Bool} {a : Act} {w : World} (hr : Region.ready md ops listed = []) (h : Q .normal a w) : ∀ fuel, wpAnyL P md ops Q S m fuel listed a w
  | 0 => ⟨hr, h⟩
  | fuel + 1 => ⟨fun _ => h, fun i hi => by rw [hr] at hi; cases hi⟩
/-- Number i alone may come up. -/
theorem wpAnyL_one {i : Nat} {o : Oper} {fuel : Nat} {listed : Array Bool} {a : Act} {w : World} (hr : Region.ready md ops listed = [i]) (ho : ops[i]? = some o)
    (h : ∀ K' : Act → World → Prop, Shut (∀ a w, (i ≠ m → S w) → wpAnyL P md ops Q S m fuel (listed.setIfInBounds i true) a w → K' a w) → if Region.wanted o (yielded ops a.tmps) = true then Oper.wp P o a w K' Q else K' (a.put o.dst undef) w) : wpAnyL P md ops Q S m (fuel + 1) listed a w := by
  refine ⟨fun h0 => (by rw [h0] at hr; cases hr), fun j hj => ?_⟩
  rw [hr] at hj
  have : j = i := by simpa using hj
  subst this
  exact wpOp_step ho (fun K' hK => h K' (fun a w hS hW => hK a w ⟨hS, hW⟩))
/-- One of two may come up. -/
theorem wpAnyL_two {i j : Nat} {oi oj : Oper} {fuel : Nat} {listed : Array Bool} {a : Act} {w : World} (hr : Region.ready md ops listed = [i, j]) (hi : ops[i]? = some oi) (hj : ops[j]? = some oj)
    (h : ∀ K' : Act → World → Prop, Shut (∀ a w, (i ≠ m → S w) → wpAnyL P md ops Q S m fuel (listed.setIfInBounds i true) a w → K' a w) → if Region.wanted oi (yielded ops a.tmps) = true then Oper.wp P oi a w K' Q else K' (a.put oi.dst undef) w)
    (h' : ∀ K' : Act → World → Prop, Shut (∀ a w, (j ≠ m → S w) → wpAnyL P md ops Q S m fuel (listed.setIfInBounds j true) a w → K' a w) → if Region.wanted oj (yielded ops a.tmps) = true then Oper.wp P oj a w K' Q else K' (a.put oj.dst undef) w) : wpAnyL P md ops Q S m (fuel + 1) listed a w := by
  refine ⟨fun h0 => (by rw [h0] at hr; cases hr), fun k hk => ?_⟩
  rw [hr] at hk
  have : k = i ∨ k = j := by simpa using hk
  rcases this with e | e
  · subst e
    exact wpOp_step hi (fun K' hK => h K' (fun a w hS hW => hK a w ⟨hS, hW⟩))
  · subst e
    exact wpOp_step hj (fun K' hK => h' K' (fun a w hS hW => hK a w ⟨hS, hW⟩))
theorem wp_region_heldL {id : Nat} {a : Act} {w : World} (S : World → Prop) (m : Nat) (hm : P.follows .mixedOrders = true)
    (h : wpAnyL P .any ops Q S m ops.size (Array.replicate ops.size false) a w.drew) : (Code.region id ops true).wp P Q a w :=
  wp_region_any hm (wpAny_of_heldL _ _ _ _ h)
end
end Go.Proofs.Ythghibopnnjboaa

namespace Go.Proofs.Ythghibopnnjboaa
set_option linter.unusedVariables false
set_option linter.unusedSimpArgs false
open Go.RowKit

/-- Only blocks whose cells are of a type in T have turned. -/
def KpY (T : TypeId → Prop) (W W' : World) : Prop := ∀ b, b < W.heap.size → (∀ c t s, W.heap[b]? = some (.cells c t s) → ¬ T t) → W'.heap[b]? = W.heap[b]?
section
variable {T : TypeId → Prop} {W W' W2 : World} {base d : Nat}
theorem KpY.refl (T : TypeId → Prop) (W : World) : KpY T W W := fun _ _ _ => rfl
theorem KpY.trans (h : KpY T W W') (k : KpY T W' W2) : KpY T W W2 := fun b hb hT => by
  have e := h b hb hT
  have hb2 : b < W'.heap.size := by
    have h1 : W.heap[b]? = some (W.heap[b]) := Array.getElem?_eq_getElem hb
    rw [← e] at h1
    exact (Array.getElem?_eq_some_iff.1 h1).1
  exact (k b hb2 (fun c t s hc => hT c t s (by rw [← e]; exact hc))).trans e
theorem KpY.below (h : KpY T W W') (hb : Below W'.heap.size W' W2) : KpY T W W2 := h.trans (fun b hb' _ => hb.block b hb')
theorem KpY.alloc (h : KpY T W W') (o : Obj) : KpY T W (W'.alloc o) := h.below ((Below.refl _ _).alloc (Nat.le_refl _) _)
theorem KpY.ownrow {e : TypeId} {sz n : Nat} {v : Value} {xs : List Value} (h : KpY T W W') (ho : W'.ownsRow base e sz v n xs) (hT : T e) (hg : W'.grownBy W2 v.ownBlock) : KpY T W W2 := by
  refine h.trans (fun b hb hT2 => hg.block b hb (fun e' => ?_))
  rcases ho.2 with ⟨rfl, _⟩ | ⟨g, cap, cur, rfl, _, hgg, _⟩
  · cases e'
  · have : b = g := Option.some.inj e'
    subst this
    exact hT2 _ _ _ hgg hT
theorem KpY.setCell {C : Array Value} {t : TypeId} {j : Nat} {u : Value} (h : KpY T W W') (hB : Blk W' d C t) (hT : T t) : KpY T W (W'.setCell ⟨d, j, none⟩ u) :=
  h.trans (fun b hb hT2 => Below.heap_setCell _ _ _ _ (fun e => by
    have h1 : W'.heap[d]? = some (.cells C t (0, 0)) := hB
    simp only at e
    subst e
    exact hT2 _ _ _ h1 hT))
theorem KpY.own {e : TypeId} {sz n : Nat} {v : Value} {xs : List Value} (h : KpY T W W') (ho : W.ownsRow base e sz v n xs) (hT : ¬ T e) : W'.ownsRow base e sz v n xs := by
  refine ⟨ho.1, ?_⟩
  rcases ho.2 with hn | ⟨g, cap, cur, rfl, hb, hgg, rest⟩
  · exact .inl hn
  · refine .inr ⟨g, cap, cur, rfl, hb, ?_, rest⟩
    rw [h g (Array.getElem?_eq_some_iff.1 hgg).1 (fun c t s hc => by rw [hgg] at hc; injection hc with hc; injection hc with _ hc _; rw [← hc]; exact hT)]
    exact hgg
theorem KpY.blk {C : Array Value} {t : TypeId} (h : KpY T W W') (hB : Blk W d C t) (hT : ¬ T t) : Blk W' d C t := by
  have h1 : W.heap[d]? = some (.cells C t (0, 0)) := hB
  show W'.heap[d]? = _
  rw [h d (Array.getElem?_eq_some_iff.1 h1).1 (fun c t' s hc => by rw [h1] at hc; injection hc with hc; injection hc with _ hc _; rw [← hc]; exact hT)]
  exact h1
theorem KpY.ownN {e : TypeId} {m : Nat} {v : Value} {L : List NE} {vs : List Value} (h : KpY T W W') (ho : OwnN W base e m v L vs) (hT : ¬ T e) (hT2 : ¬ T 5) : OwnN W' base e m v L vs :=
  ⟨ho.len, ho.pre, h.own ho.row hT, fun i u l hu hl => h.own (ho.dat i u l hu hl) hT2, ho.one⟩
end
/-- The kinds of blocks that the model's device turns, and the program's. -/
def TyM (t : TypeId) : Prop := t = 80 ∨ t = 92 ∨ t = 22
def TyP (t : TypeId) : Prop := t = 61 ∨ t = 76 ∨ t = 95
end Go.Proofs.Ythghibopnnjboaa
