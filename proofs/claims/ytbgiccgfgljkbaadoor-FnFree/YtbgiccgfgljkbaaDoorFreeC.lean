/- The free blocks of a map: the program's MapFree. -/
import Derived.Test.YtbgiccgfgljkbaaDoorFreeB
namespace Go.Proofs.YtbgiccgfgljkbaaDoor
set_option linter.unusedVariables false
set_option linter.unusedSimpArgs false
open Go.RowKit Go.Shelf
attribute [local go_sem] Oper.semAt_some

/-- What MapFree answers. -/
def fbB (ws : List Int) (c n : Int) : Bool := rightM ws && insB ws.length c && decide (0 ≤ n)
def lastOf (m : Nat) (c : Int) (L : List Int) : Int := match L.getLast? with | none => c | some x => behI m x
def okF (ws : List Int) (c n : Int) : Bool := fbB ws c n && decide (n.toNat ≤ (freesM ws c.toNat).length)
def freeL (ws : List Int) (c n : Int) : List Int := if okF ws c n then (freesM ws c.toNat).take n.toNat else []
def freeK (ws : List Int) (c n : Int) : Int := if okF ws c n then lastOf ws.length c (freeL ws c n) else 0
def codeF (ws : List Int) (c n : Int) : Int := if fbB ws c n then (if okF ws c n then 0 else 9) else 7

theorem box2 (w : World) (v : Value) (n : Int) : ∃ W, W = (w.alloc (.cells #[v] 22)).alloc (.cells #[.int .i64 n] 3) ∧ Hid (Boxed W w.heap.size 22 v ∧ Boxed W (w.heap.size + 1) 3 (.int .i64 n) ∧ Below w.heap.size w W) ∧ W.heap.size = w.heap.size + 2 := by
  refine ⟨_, rfl, ⟨(Boxed.new w _ _).alloc _, ?_, ((Below.refl _ w).alloc (Nat.le_refl _) _).alloc (by simp) _⟩, by simp⟩
  have h := Boxed.new (w.alloc (.cells #[v] 22)) 3 (.int .i64 n)
  rw [World.size_alloc] at h
  exact h
theorem box_below {W W' : World} {B D : Nat} {t : TypeId} {v : Value} (h : Boxed W B t v) (hb : Below D W W') (hB : B < D) : Boxed W' B t v := (hb.block B hB).trans h
theorem box_tch {W W' : World} {B b : Nat} {t : TypeId} {v : Value} (h : Boxed W B t v) (hb : Tch b W W') (hB : B ≠ b) : Boxed W' B t v := (hb.1.block B h.lt (by simp; omega)).trans h

/-- A box below a row's base is kept when the row grows. -/
theorem box_app {W w1 : World} {B n₁ k : Nat} {t e : TypeId} {u v : Value} {xs : List Value} {tmp : Obj} (h : Boxed W B t u) (hB : B < n₁) (hr : W.ownsRow n₁ e 1 v k xs) (hg : (W.alloc tmp).grownBy w1 v.ownBlock) : Boxed w1 B t u :=
  (h.alloc tmp).kept hg (fun e' => by have := (hr.lt B e'.symm).1; omega)
/-- Between two rounds: the list that was made, the cursor behind it, the boxes that are read. -/
structure Ifr (ws : List Int) (c : Int) (m : Nat) (w : World) (L n₁ : Nat) (wv : Value) (pre : List Int) (W : World) : Prop where
  row : ∃ v, Boxed W L 22 v ∧ W.ownsRow n₁ 3 1 v pre.length (pre.map (Value.int .i64))
  last : Boxed W (L + 1) 3 (.int .i64 (lastOf ws.length c pre))
  words : Boxed W w.heap.size 22 wv
  num : Boxed W (w.heap.size + 1) 3 (.int .i64 (m : Int))
  capt : Boxed W (L + 2) 22 wv
  le : pre.length ≤ m
  old : Below w.heap.size w W
  size : n₁ ≤ W.heap.size
theorem Ifr.own {ws : List Int} {c : Int} {m : Nat} {w : World} {L n₁ : Nat} {wv : Value} (hL : w.heap.size + 3 ≤ L) (hn : n₁ = L + 4) : OwnFrom n₁ (Ifr ws c m w L n₁ wv) := by
  intro pre X Y row hs hg hr
  have hb : ∀ {B : Nat} {t : TypeId} {v : Value}, B < n₁ → Boxed X B t v → Boxed Y B t v := fun hB h => h.kept hg (fun e => by have := (hr _ e.symm).1; omega)
  obtain ⟨v, hv, hrow⟩ := hs.row
  refine ⟨⟨v, hb (by omega) hv, hrow.kept hg ?_⟩, hb (by omega) hs.last, hb (by omega) hs.words, hb (by omega) hs.num, hb (by omega) hs.capt, hs.le, ?_, Nat.le_trans hs.size hg.size⟩
  · rcases hrow.2 with ⟨rfl, _⟩ | ⟨g, cap, cur, rfl, _, hgb, _⟩
    · exact .inl rfl
    · refine .inr fun e' => ?_
      obtain ⟨_, o, ho, hc⟩ := hr g (by simpa [Value.ownBlock] using e'.symm)
      rw [hgb] at ho; cases ho; cases hc
  · exact hs.old.grown hg hs.old.size (fun k e => by have := (hr k e).1; omega)
theorem own_shape {w : World} {base : Nat} {e : TypeId} {v : Value} {n : Nat} {xs : List Value} (h : w.ownsRow base e 1 v n xs) : ∃ a cap, v = .slice a n cap := by
  rcases h.2 with ⟨rfl, rfl⟩ | ⟨g, cap, _, rfl, _⟩
  · exact ⟨_, _, rfl⟩
  · exact ⟨_, _, rfl⟩
theorem lastOf_snoc (m : Nat) (c : Int) (L : List Int) (x : Int) : lastOf m c (L ++ [x]) = behI m x := by
  unfold lastOf; rw [List.getLast?_concat]

set_option maxRecDepth 100000 in
set_option maxHeartbeats 2000000 in
theorem implF_any (v : Value) (ws : List Int) (c n : Int) (w : World) (h : Rd .i64 w v ws) (hg : ErrT w) :
    Calls Tryd.prog 19 #[v, .int .i64 c, .int .i64 n] w fun e w' => ∃ v', e = .returned (.tuple #[v', .int .i64 (freeK ws c n), .int .i64 (codeF ws c n)]) ∧ w'.ownsRow w.heap.size 3 1 v' (freeL ws c n).length ((freeL ws c n).map (Value.int .i64)) ∧ Below w.heap.size w w' := by
  have hm := h.len
  unfold maxLen at hm
  have HG := hide (And.intro h hg)
  have hsh : ∃ a cap, v = .slice a ws.length cap := by obtain ⟨a, cap, h1, _⟩ := h; exact ⟨a, cap, h1⟩
  obtain ⟨a, cap, rfl⟩ := hsh
  obtain ⟨i0, hi, hz0, hz1, hz2⟩ := info_parts infoI64
  obtain ⟨W0, hW0, K0, hs0⟩ := box2 w (.slice a ws.length cap) n
  have HW0 := hide hW0
  have HS0 := hide hs0
  clear h hg hW0 hs0
  refine (callsIn_wide (n := 6)).1 ?_
  refine callsIn_of_wp_marks Tryd.func19 rfl trivial ?_ rfl
  simp only [Tryd.ntmps19, List.size_toArray, List.length_cons, List.length_nil, Nat.reduceAdd, Nat.reduceSub, Array.replicate_succ, Array.replicate_zero, List.push_toArray, List.append_toArray, List.nil_append, List.cons_append]
  gi_wp2_with (refine ⟨trivial, ?_⟩; gi_at_call 23; fail)
  refine ⟨trivial, ?_⟩
  rw [← HW0.out]
  have KA := hide (show Ck (W0.alloc (.cells #[.int .i64 7, .nilIface] 53)) (w.heap.size + 2) (w.heap.size + 3) 7 true ∧ Boxed (W0.alloc (.cells #[.int .i64 7, .nilIface] 53)) w.heap.size 22 (.slice a ws.length cap) ∧ Boxed (W0.alloc (.cells #[.int .i64 7, .nilIface] 53)) (w.heap.size + 1) 3 (.int .i64 n) ∧ Below w.heap.size w (W0.alloc (.cells #[.int .i64 7, .nilIface] 53)) ∧ (W0.alloc (.cells #[.int .i64 7, .nilIface] 53)).heap.size = w.heap.size + 3 from by
    have hc := Ck.fresh W0 7 53
    rw [HS0.out] at hc
    exact ⟨hc, K0.out.1.alloc _, K0.out.2.1.alloc _, K0.out.2.2.alloc (by rw [HS0.out]; omega) _, by simp [HS0.out]⟩)
  generalize (W0.alloc (.cells #[.int .i64 7, .nilIface] 53)) = WA at KA ⊢
  clear K0 HW0 HS0
  refine (callsIn_wide.2 (mapFault_any _ ws _ (HG.out.1.below KA.out.2.2.2.1))).mono ?_
  rintro e w1 ⟨ev, rfl, hf1, hb1⟩
  have hsA := KA.out.2.2.2.2
  have K1 := hide (show Ck w1 (w.heap.size + 2) (w.heap.size + 3) 7 true ∧ FaultIs w1 (w.heap.size + 3) (rightM ws) ev 7 ∧ Boxed w1 w.heap.size 22 (.slice a ws.length cap) ∧ Boxed w1 (w.heap.size + 1) 3 (.int .i64 n) ∧ Below w.heap.size w w1 ∧ w.heap.size + 3 ≤ w1.heap.size from by
    have := hb1.size
    exact ⟨KA.out.1.below hb1, by rw [hsA] at hf1; exact hf1, box_below KA.out.2.1 hb1 (by omega), box_below KA.out.2.2.1 hb1 (by omega), KA.out.2.2.2.1.trans (hb1.mono (by omega)), by omega⟩)
  clear hf1 hb1 hsA KA
  gi_wp2_with (refine ⟨trivial, ?_⟩; gi_at_call 27; fail)
  refine ⟨trivial, ?_⟩
  refine (callsIn_wide.2 (inside_both (w.heap.size + 2) (w.heap.size + 3) _ 7 true _ ev _ K1.out.1 K1.out.2.1 (by omega) K1.out.2.2.2.2.2)).mono ?_
  rintro e w2 ⟨rfl, hc2, ht2⟩
  rw [Bool.true_and] at hc2
  have K2 := hide (show Ck w2 (w.heap.size + 2) (w.heap.size + 3) 7 (rightM ws) ∧ Boxed w2 w.heap.size 22 (.slice a ws.length cap) ∧ Boxed w2 (w.heap.size + 1) 3 (.int .i64 n) ∧ Below w.heap.size w w2 ∧ w.heap.size + 3 ≤ w2.heap.size from
    ⟨hc2, box_tch K1.out.2.2.1 ht2 (by omega), box_tch K1.out.2.2.2.1 ht2 (by omega), ht2.under K1.out.2.2.2.2.1 (by omega) K1.out.2.2.2.2.1.size, Nat.le_trans K1.out.2.2.2.2.2 ht2.1.size⟩)
  clear hc2 ht2 K1
  have cb2 := K2.out.2.1.cell
  gi_wp2_with (refine ⟨trivial, ?_⟩; gi_at_call 30; refine (callsIn_wide.2 (isBlock_any _ _ _)).mono ?_; rintro e w0 ⟨rfl, hw0⟩; rw [hw0]; clear hw0 w0)
  refine ⟨trivial, ?_⟩
  refine (callsIn_wide.2 (need_any (w.heap.size + 2) (w.heap.size + 3) _ 7 _ _ _ K2.out.1 (by omega) K2.out.2.2.2.2)).mono ?_
  rintro e w3 ⟨rfl, hc3, ht3⟩
  have K3 := hide (show Ck w3 (w.heap.size + 2) (w.heap.size + 3) 7 (rightM ws && insB ws.length c) ∧ Boxed w3 w.heap.size 22 (.slice a ws.length cap) ∧ Boxed w3 (w.heap.size + 1) 3 (.int .i64 n) ∧ Below w.heap.size w w3 ∧ w.heap.size + 3 ≤ w3.heap.size from
    ⟨hc3, box_tch K2.out.2.1 ht3 (by omega), box_tch K2.out.2.2.1 ht3 (by omega), ht3.under K2.out.2.2.2.1 (by omega) K2.out.2.2.2.1.size, Nat.le_trans K2.out.2.2.2.2 ht3.1.size⟩)
  clear hc3 ht3 K2 cb2
  have cn3 := K3.out.2.2.1.cell
  gi_wp2_with (refine ⟨trivial, ?_⟩; gi_at_call 32; fail)
  refine ⟨trivial, ?_⟩
  refine (callsIn_wide.2 (need_any (w.heap.size + 2) (w.heap.size + 3) _ 7 _ _ _ K3.out.1 (by omega) K3.out.2.2.2.2)).mono ?_
  rintro e w4 ⟨rfl, hc4, ht4⟩
  have K4 := hide (show Ck w4 (w.heap.size + 2) (w.heap.size + 3) 7 (fbB ws c n) ∧ Boxed w4 w.heap.size 22 (.slice a ws.length cap) ∧ Boxed w4 (w.heap.size + 1) 3 (.int .i64 n) ∧ Below w.heap.size w w4 ∧ w.heap.size + 3 ≤ w4.heap.size from
    ⟨hc4, box_tch K3.out.2.1 ht4 (by omega), box_tch K3.out.2.2.1 ht4 (by omega), ht4.under K3.out.2.2.2.1 (by omega) K3.out.2.2.2.1.size, Nat.le_trans K3.out.2.2.2.2 ht4.1.size⟩)
  clear hc4 ht4 K3 cn3
  obtain ⟨e4, c4, hf4⟩ := K4.out.1.fault
  cases hr : fbB ws c n with
  | false =>
    rw [hr] at hf4
    rcases hf4 with ⟨hf4, _⟩ | ⟨_, m, hf4⟩
    · cases hf4
    obtain ⟨t', x', rfl⟩ := hf4.iface
    have HF := hide hf4
    have HR := hide hr
    clear hf4 hr
    gi_wp2_with (refine ⟨trivial, ?_⟩; gi_at_call 24; fail)
    refine ⟨trivial, ?_⟩
    refine (callsIn_wide.2 (codeOf_any m _ 7 _ _ HF.out (HG.out.2.below K4.out.2.2.2.1))).mono ?_
    rintro e w5 ⟨rfl, hb5⟩
    have B5 := hide (K4.out.2.2.2.1.trans (hb5.mono K4.out.2.2.2.1.size))
    clear hb5
    gi_wp2
    refine ⟨_, results_tmp3 rfl _ _ _, .slice none 0 0, ?_, ?_, B5.out⟩
    · rw [show freeK ws c n = 0 from by simp [freeK, okF, HR.out], show codeF ws c n = 7 from by simp [codeF, HR.out]]; rfl
    · rw [show freeL ws c n = [] from by simp [freeL, okF, HR.out]]; exact World.ownsRow_nil _ _ _ _
  | true =>
    rw [hr] at hf4
    rcases hf4 with ⟨_, rfl⟩ | ⟨hf4, _⟩
    case inr => cases hf4
    have HR := hide hr
    clear hr
    have hs4 := K4.out.2.2.2.2
    have cb4 := ((K4.out.2.1.alloc (.cells #[.slice none 0 0] 22)).alloc (.cells #[.int .i64 c] 3)).cell
    gi_wp2_with (refine ⟨trivial, ?_⟩; gi_at_call 33; fail)
    refine ⟨trivial, ?_⟩
    refine (free_in _ _ _ _ a ws.length cap rfl).mono ?_
    rintro e w' ⟨rfl, rfl⟩
    gi_wp2
    have hfb := HR.out
    unfold fbB insB at hfb
    simp only [Bool.and_eq_true, decide_eq_true_eq] at hfb
    obtain ⟨⟨hrt, hc2, hcl⟩, hn0⟩ := hfb
    obtain ⟨hl1, hl2⟩ := right_len ws hrt
    obtain ⟨cN, rfl⟩ : ∃ k : Nat, c = (k : Int) := ⟨c.toNat, by omega⟩
    obtain ⟨m, rfl⟩ : ∃ k : Nat, n = (k : Int) := ⟨n.toNat, by omega⟩
    obtain ⟨bw, off, cap', ea, hbw, _, _, hcell⟩ := HG.out.1.partsC (by omega)
    injection ea with ea1 ea2 ea3
    subst ea1 ea3
    clear cb4 c4
    obtain ⟨W1, hW1⟩ : ∃ W1, W1 = ((((w4.alloc (.cells #[.slice none 0 0] 22)).alloc (.cells #[.int .i64 (cN : Int)] 3)).alloc (.cells #[.slice (some ⟨bw, off, none⟩) ws.length cap] 22)).alloc (.cells #[.int .i64 (cN : Int)] 3)) := ⟨_, rfl⟩
    have hsz : W1.heap.size = w4.heap.size + 4 := by rw [hW1]; simp
    have bL : Boxed W1 w4.heap.size 22 (.slice none 0 0) := by rw [hW1]; exact (((Boxed.new w4 _ _).alloc _).alloc _).alloc _
    have bK : Boxed W1 (w4.heap.size + 1) 3 (.int .i64 (cN : Int)) := by
      have h := Boxed.new (w4.alloc (.cells #[.slice none 0 0] 22)) 3 (.int .i64 (cN : Int))
      rw [World.size_alloc] at h
      rw [hW1]; exact (h.alloc _).alloc _
    have bX2 : Boxed W1 (w4.heap.size + 2) 22 (.slice (some ⟨bw, off, none⟩) ws.length cap) := by
      have h := Boxed.new ((w4.alloc (.cells #[.slice none 0 0] 22)).alloc (.cells #[.int .i64 (cN : Int)] 3)) 22 (.slice (some ⟨bw, off, none⟩) ws.length cap)
      rw [World.size_alloc, World.size_alloc] at h
      rw [hW1]; exact h.alloc _
    have bX1 : Boxed W1 (w4.heap.size + 3) 3 (.int .i64 (cN : Int)) := by
      have h := Boxed.new (((w4.alloc (.cells #[.slice none 0 0] 22)).alloc (.cells #[.int .i64 (cN : Int)] 3)).alloc (.cells #[.slice (some ⟨bw, off, none⟩) ws.length cap] 22)) 3 (.int .i64 (cN : Int))
      rw [World.size_alloc, World.size_alloc, World.size_alloc] at h
      rw [hW1]; exact h
    have hBelow : Below w.heap.size w W1 := by
      rw [hW1]
      exact (((K4.out.2.2.2.1.alloc (by omega) _).alloc (by simp; omega) _).alloc (by simp; omega) _).alloc (by simp; omega) _
    have bS : Boxed W1 w.heap.size 22 (.slice (some ⟨bw, off, none⟩) ws.length cap) := by rw [hW1]; exact (((K4.out.2.1.alloc _).alloc _).alloc _).alloc _
    have bN : Boxed W1 (w.heap.size + 1) 3 (.int .i64 (m : Int)) := by rw [hW1]; exact (((K4.out.2.2.1.alloc _).alloc _).alloc _).alloc _
    have hcell1 : ∀ i, i < ws.length → W1.cell? ⟨bw, off + i, none⟩ = some (.int .i64 (ws.getD i 0)) := fun i hi => (hBelow.cell (p := ⟨bw, off + i, none⟩) hbw).trans (hcell i hi)
    have hI0 : Ifr ws cN m w w4.heap.size (w4.heap.size + 4) (.slice (some ⟨bw, off, none⟩) ws.length cap) [] W1 :=
      ⟨⟨_, bL, World.ownsRow_nil _ _ _ _⟩, bK, bS, bN, bX2, by simp, hBelow, by omega⟩
    rw [← hW1]
    have HW1 := hide hW1
    clear hW1
    have hmx : Tryd.prog.follows .mixedOrders = true := by kernel_rfl
    refine wpIn_rangeFunc_ownG rfl (by omega) (gf := 38) (lb := #[.pointer (some ⟨w4.heap.size + 3, 0, none⟩), .pointer (some ⟨w4.heap.size + 2, 0, none⟩)]) rfl trivial (enters_of Tryd.func38 (by kernel_rfl) rfl)
      (free_stops 5 (by omega) (w4.heap.size + 3) (w4.heap.size + 2) w.heap.size ws cN bw off cap (by omega) (by omega) hl2 hbw W1 (by omega) bX1 bX2 hcell1) Kf.trans (Kf_b (by omega) (by omega)) (Below.refl _ _) (fun _ => rfl)
      (Ifr ws cN m w w4.heap.size (w4.heap.size + 4) (.slice (some ⟨bw, off, none⟩) ws.length cap))
      (fun cd pre W => cd = .exit 0 ∧ ∃ pre' x, pre = pre' ++ [x] ∧ pre'.length = m ∧ Ifr ws cN m w w4.heap.size (w4.heap.size + 4) (.slice (some ⟨bw, off, none⟩) ws.length cap) pre' W)
      (by rw [hsz]; exact Ifr.own hs4 rfl)
      (by
        rw [hsz]
        rintro cd pre X Y row ⟨h1, pre', x, h2, h3, h4⟩ hg hr
        exact ⟨h1, pre', x, h2, h3, Ifr.own hs4 rfl pre' X Y row h4 hg hr⟩)
      hI0
      (fun x => { tmps := #[.slice (some ⟨bw, off, none⟩) ws.length cap, .int .i64 (cN : Int), .int .i64 (m : Int), .pointer (some ⟨w.heap.size, 0, none⟩), undef, .pointer (some ⟨w.heap.size + 1, 0, none⟩), .slice none 0 0, .int .i64 0, .int .i64 0, .pointer (some ⟨w.heap.size + 1 + 1, 0, none⟩), .pointer (some ⟨w4.heap.size, 0, none⟩), .pointer (some ⟨w4.heap.size + 1, 0, none⟩), .int .i64 x, .agg #[.int .i64 7, .nilIface], .slice (some ⟨bw, off, none⟩) ws.length cap, ev, .tuple #[], .int .i64 (cN : Int), .slice (some ⟨bw, off, none⟩) ws.length cap, .int .i64 (ws.length : Int), .bool (insB ws.length cN), .tuple #[], .int .i64 (m : Int), .bool (decide (0 ≤ (m : Int))), .tuple #[], .pointer (some ⟨w.heap.size + 1 + 1, 1, none⟩), .nilIface, .bool false, undef, undef, undef, .int .i64 (cN : Int), .slice (some ⟨bw, off, none⟩) ws.length cap, .int .i64 (cN : Int), .func (.func 38) #[] #[.pointer (some ⟨w4.heap.size + 1 + 1 + 1, 0, none⟩), .pointer (some ⟨w4.heap.size + 1 + 1, 0, none⟩)], .int .i64 x, undef, undef, undef, undef, undef, undef, undef, undef, undef, undef, undef, undef, undef, undef, undef, undef, undef, undef], defers := [] }) ?assign ?body ?done ?stop
    case assign =>
      intro l x W K hK
      gi_wp2
      exact hK
    case body =>
      rintro l pre x W hI hlt
      obtain ⟨v, hv, hrow⟩ := hI.row
      obtain ⟨a', cap', rfl⟩ := own_shape hrow
      have cL := hv.cell
      have cM := hI.num.cell
      have hpm := hI.le
      have hFl : (freesM ws cN).length ≤ 2048 := by have := frees_len ws cN (ws.length - 2); unfold freesM; omega
      by_cases hd : pre.length = m
      · have hd' : ((pre.length : Int) == (m : Int)) = true := by simp [hd]
        have HI := hide hI
        clear hI hv hrow
        gi_wp2
        exact ⟨KeepsFrom.refl _ _, rfl, pre, ⟨x, rfl⟩, hd, HI.out⟩
      · have hd' : ((pre.length : Int) == (m : Int)) = false := by simp; omega
        have HI := hide hI
        have hsW := hI.size
        have hsO := hI.old.size
        have cS := hI.words.cell
        have HRow := hide hrow
        have HV := hide hv
        clear hI hv hrow
        gi_wp2_with (first
          | (gi_at_builtin; refine wpListIn_append_own _ rfl _ _ 22 rfl (w4.heap.size + 4) 3 i0 (.int .i64 0) 1 8 Tryd.underlying22 hi hz0 hz1 hz2 rfl (by decide) _ _ _ rfl (HRow.out.alloc _) ⟨W.heap.size, 0, none⟩ 1 1 [.int .i64 x] rfl rfl (cell_one_new _ _ _) (by simp [Value.oneCell']) (by unfold maxLen; omega) (by omega) (by simp; omega) ?_; intro v' w1 hown' hgrow _; obtain ⟨g', cap1, rfl⟩ := ownsRow_succ hown'; have HA := hide (And.intro hown' hgrow); clear hown' hgrow; have cL1 := (box_app HV.out (by omega) HRow.out HA.out.2).cell; have fL1 := (box_app HV.out (by omega) HRow.out HA.out.2).frozen; have cS1 := ((box_app HI.out.words (by omega) HRow.out HA.out.2).other (B' := w4.heap.size) (by omega) (.slice (some ⟨g', 0, none⟩) (pre.length + 1) cap1)).cell; have cK1 := ((box_app HI.out.last (by omega) HRow.out HA.out.2).other (B' := w4.heap.size) (by omega) (.slice (some ⟨g', 0, none⟩) (pre.length + 1) cap1)).cell; have fK1 := ((box_app HI.out.last (by omega) HRow.out HA.out.2).other (B' := w4.heap.size) (by omega) (.slice (some ⟨g', 0, none⟩) (pre.length + 1) cap1)).frozen)
          | (refine ⟨trivial, ?_⟩; gi_at_call 34; refine (CallsIn.inRound l (callsIn_wide.2 (behind_any x ws.length _ (by omega) (by omega)))).mono ?_; rintro e w0 ⟨rfl, hw0⟩; rw [hw0]; clear hw0 w0))
        obtain ⟨hv1, hv2, _, hk2, hb2⟩ := Boxed.appended HV.out (by decide) (own_mono HRow.out (by omega)) HI.out.old.size (by omega) (own_mono HA.out.1 (by omega)) HA.out.2
        have hbx : ∀ {B : Nat} {t : TypeId} {u : Value}, B < w4.heap.size + 4 → B ≠ w4.heap.size → B ≠ w4.heap.size + 1 → Boxed W B t u → Boxed ((w1.setCell ⟨w4.heap.size, 0, none⟩ (.slice (some ⟨g', 0, none⟩) (pre.length + 1) cap1)).setCell ⟨w4.heap.size + 1, 0, none⟩ (.int .i64 (behI ws.length x))) B t u := fun h1 h2 h3 h =>
          Boxed.other (Boxed.other (box_app h h1 HRow.out HA.out.2) h2 _) h3 _
        have hg' := (HA.out.1.lt g' rfl).1
        have hr2 := (HA.out.1.kept (grownBy_setCell' w1 w4.heap.size (.slice (some ⟨g', 0, none⟩) (pre.length + 1) cap1)) (.inr (by simp [Value.ownBlock]; omega))).kept (grownBy_setCell' _ (w4.heap.size + 1) (.int .i64 (behI ws.length x))) (.inr (by simp [Value.ownBlock]; omega))
        have hw1 := HA.out.2.size
        refine ⟨(hk2.trans (KeepsOthers.setCell _ _ _)).from _, ⟨hb2.setCell (p := ⟨w4.heap.size + 1, 0, none⟩) (show w.heap.size ≤ w4.heap.size + 1 by omega) _, (hbx (by omega) (by omega) (by omega) HI.out.capt).trans (Eq.symm HI.out.capt)⟩, ?_⟩
        refine ⟨⟨_, hv2.other (by omega) _, ?_⟩, ?_, hbx (by omega) (by omega) (by omega) HI.out.words, hbx (by omega) (by omega) (by omega) HI.out.num, hbx (by omega) (by omega) (by omega) HI.out.capt, ?_, HI.out.old.trans (hb2.setCell (p := ⟨w4.heap.size + 1, 0, none⟩) (show w.heap.size ≤ w4.heap.size + 1 by omega) _), ?_⟩
        · rw [List.map_append, show (pre ++ [x]).length = pre.length + 1 from by simp]
          exact hr2
        · rw [lastOf_snoc]
          exact Boxed.set _ ((box_app HI.out.last (by omega) HRow.out HA.out.2).other (B' := w4.heap.size) (by omega) (.slice (some ⟨g', 0, none⟩) (pre.length + 1) cap1))
        · simp; omega
        · simp at hw1 ⊢; omega
    case done =>
      rintro D ys W hD rfl hI hK
      rw [hsz] at hD
      obtain ⟨v, hv, hrow⟩ := hI.row
      obtain ⟨a', cap', rfl⟩ := own_shape hrow
      have cL := hv.cell
      have cM := hI.num.cell
      have cK := hI.last.cell
      have HI := hide hI
      have HRow := hide hrow
      have HK := hide hK
      have HOld := hide (hI.old.trans (belowK_b (w := w) (Nat.le_refl _) W D _ (.deferred none) (by omega) hK rfl rfl))
      have HOldD := hide (hI.old.drew.trans (belowK_b (w := w) (Nat.le_refl _) W.drew D _ (.deferred none) (by omega) hK rfl rfl))
      clear hI hrow hK hv
      by_cases hlm : (freesM ws cN).length < m
      · have HOk := hide (show okF ws cN m = false from by simp [okF, HR.out]; omega)
        have hlm' : ((freesM ws cN).length : Int) < (m : Int) := by omega
        gi_wp2
        refine ⟨by simp, .inl ⟨_, _, rfl, run_takeDeferred HK.out, ?_⟩⟩
        refine ⟨_, results_tmp3 rfl _ _ _, .slice none 0 0, ?_, ?_, HOld.out⟩
        · rw [show freeK ws cN m = 0 from by simp [freeK, HOk.out], show codeF ws cN m = 9 from by simp [codeF, HR.out, HOk.out]]; rfl
        · rw [show freeL ws cN m = [] from by simp [freeL, HOk.out]]; exact World.ownsRow_nil _ _ _ _
      · have hle := HI.out.le
        have HOk := hide (show okF ws cN m = true from by simp [okF, HR.out]; omega)
        have HLs := hide (show freeL ws cN m = freesM ws cN from by rw [freeL, if_pos HOk.out]; exact List.take_of_length_le (by simp; omega))
        have hlm' : ¬ ((freesM ws cN).length : Int) < (m : Int) := by omega
        gi_wp2
        gi_region_o
        gi_wp2
        refine ⟨by simp, .inl ⟨_, _, rfl, run_takeDeferred (show W.drew.heap[D]? = _ from HK.out), ?_⟩⟩
        refine ⟨_, results_tmp3 rfl _ _ _, .slice a' (freesM ws cN).length cap', ?_, ?_, ?_⟩
        · rw [show freeK ws cN m = lastOf ws.length cN (freesM ws cN) from by simp [freeK, HOk.out, HLs.out], show codeF ws cN m = 0 from by simp [codeF, HR.out, HOk.out]]; rfl
        · rw [HLs.out]; exact own_mono (ownsRow_putObj (W := W.drew) HRow.out _ HK.out rfl) (by omega)
        · exact HOldD.out
    case stop =>
      rintro D cd pre W hD hSp ⟨rfl, pre', x, rfl, hpl, hI⟩ hK
      rw [hsz] at hD
      obtain ⟨v, hv, hrow⟩ := hI.row
      obtain ⟨a', cap', rfl⟩ := own_shape hrow
      have cL := hv.cell
      have cM := hI.num.cell
      have cK := hI.last.cell
      have HI := hide hI
      have HRow := hide hrow
      have HK := hide hK
      have HOld := hide (hI.old.trans (belowK_b (w := w) (Nat.le_refl _) W D _ (.deferred none) (by omega) hK rfl rfl))
      have HOldD := hide (hI.old.drew.trans (belowK_b (w := w) (Nat.le_refl _) W.drew D _ (.deferred none) (by omega) hK rfl rfl))
      have hsp := hSp.length_le
      simp at hsp
      have HOk := hide (show okF ws cN m = true from by simp [okF, HR.out]; omega)
      have HLs := hide (show freeL ws cN m = pre' from by
        obtain ⟨r, hr⟩ := hSp
        simp [freeL, HOk.out]
        rw [← hr, List.append_assoc, ← hpl, List.take_left])
      have hlm' : ¬ (pre'.length : Int) < (m : Int) := by omega
      clear hI hrow hK hv hSp hpl
      gi_wp2
      gi_region_o
      gi_wp2
      refine ⟨by simp, .inl ⟨_, _, rfl, run_takeDeferred (show W.drew.heap[D]? = _ from HK.out), ?_⟩⟩
      refine ⟨_, results_tmp3 rfl _ _ _, .slice a' pre'.length cap', ?_, ?_, ?_⟩
      · rw [show freeK ws cN m = lastOf ws.length cN pre' from by simp [freeK, HOk.out, HLs.out], show codeF ws cN m = 0 from by simp [codeF, HR.out, HOk.out]]; rfl
      · rw [HLs.out]; exact own_mono (ownsRow_putObj (W := W.drew) HRow.out _ HK.out rfl) (by omega)
      · exact HOldD.out
end Go.Proofs.YtbgiccgfgljkbaaDoor
