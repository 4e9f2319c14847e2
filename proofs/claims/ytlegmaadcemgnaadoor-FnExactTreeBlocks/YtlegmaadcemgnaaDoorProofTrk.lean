/- The program lists a tree's blocks: list. The program's TreeBlocks. The model's lists of a tree: l03Cut, l03Some. The model's TreeBlocks. The law on TreeBlocks, walked: it answers true and turns nothing that was there. A root that came in, opened: fifteen integers (as RootO, with no law beside it). The law on TreeBlocks holds for every input: the program's answer is the model's, it writes into no argument, its answer owns its memory; so the law answers true and the arguments read as before. Condition: errors.errorType holds what the program's own start lays there (the card ties it to the text). -/
import Derived.Test.YtlegmaadcemgnaaDoorTrF
import Derived.Test.YtlegmaadcemgnaaDoorRootB
import Derived.Test.YtlegmaadcemgnaaDoorApart
import Derived.Deep.RegionHeld3
import Derived.Deep.MidRow
import Derived.Test.YtlegmaadcemgnaaDoorOpen
import Derived.ProofKit
import Derived.OpenShut
import Derived.Test.YtlegmaadcemgnaaDoorCards
import Derived.Test.YtlegmaadcemgnaaDoorTie
import Derived.Test.YtlegmaadcemgnaaDoorDoor
namespace Go.Proofs.YtlegmaadcemgnaaDoor
set_option linter.unusedVariables false
set_option linter.unusedSimpArgs false
open Go.RowKit Go.Shelf
attribute [local go_sem] Oper.semAt_some

theorem thenT_len (a b : TL) : (thenT a b).1.length ≤ a.1.length + b.1.length := by
  unfold thenT
  split
  · omega
  · simp
theorem allT_len (m : Nat) : ∀ (L : List TL), (∀ a ∈ L, a.1.length ≤ m) → (allT L).1.length ≤ L.length * m
  | [], _ => by simp [allT]
  | a :: L, h => by
    have h1 := allT_len m L (fun x hx => h x (by simp [hx]))
    have h2 := h a (by simp)
    have h3 := thenT_len a (allT L)
    have e : allT (a :: L) = thenT a (allT L) := by simp [allT]
    rw [e, List.length_cons, Nat.succ_mul]
    omega
theorem tellG_len {cnt n : Nat} {W : Int → Nat → Int} : ∀ (l r : Nat) (p : Int), l ≤ 2 → (tellG cnt n W l r p).1.length ≤ (if l = 0 then 1 else if l = 1 then 129 else 16513)
  | 0, r, p, _ => by unfold tellG; split <;> (try split) <;> simp
  | l + 1, r, p, hl => by
    unfold tellG
    split
    · simp
    split
    · simp
    refine Nat.le_trans (thenT_len _ _) ?_
    have h := allT_len (if l = 0 then 1 else if l = 1 then 129 else 16513) ((List.range 128).map fun k => tellG cnt n W l (belR l r k) (W p k)) (fun a ha => by
      obtain ⟨k, _, rfl⟩ := List.mem_map.1 ha
      exact tellG_len l _ _ (by omega))
    rw [List.length_map, List.length_range] at h
    have hl2 : l = 0 ∨ l = 1 := by omega
    rcases hl2 with rfl | rfl
    · simp at h ⊢; omega
    · simp at h ⊢; omega
theorem tops_len {cnt n : Nat} {W : Int → Nat → Int} {Pv : Nat → Int} : (allT (topsT cnt n W Pv)).1.length ≤ 231182 := by
  refine Nat.le_trans (allT_len 16513 _ (fun a ha => ?_)) (by unfold topsT; simp)
  unfold topsT at ha
  obtain ⟨j, _, rfl⟩ := List.mem_map.1 ha
  refine Nat.le_trans (tellG_len _ _ _ (topL_le j)) ?_
  split
  · omega
  · split <;> omega
theorem Kq.grown {n₀ z : Nat} {Ty : TypeId → Prop} {W W' : World} {row : Option Nat} (hg : W.grownBy W' row) (hn : n₀ ≤ W.heap.size) (hr : ∀ r, row = some r → n₀ ≤ r ∧ ∃ C t, Blk W r C t ∧ Ty t) : Kq n₀ z Ty W W' := by
  refine ⟨(Below.refl _ _).grown hg hn (fun k e => (hr k e).1), fun k cs t fr hk hu => ?_, fun k o hk ho hc => ?_, hg.size⟩
  · refine (hg.block k (Array.getElem?_eq_some_iff.1 hk).1 (fun e => ?_)).trans hk
    obtain ⟨_, C, t', hb, ht⟩ := hr k e.symm
    have hb' : W.heap[k]? = some (.cells C t') := hb
    rw [hb'] at hk
    cases hk
    exact hu ht
  · refine (hg.block k (Array.getElem?_eq_some_iff.1 ho).1 (fun e => ?_)).trans ho
    obtain ⟨_, C, t', hb, ht⟩ := hr k e.symm
    have hb' : W.heap[k]? = some (.cells C t') := hb
    rw [hb'] at ho
    cases ho
    cases hc
theorem own_rowB {W : World} {base n : Nat} {e : TypeId} {v : Value} {xs : List Value} (h : W.ownsRow base e 1 v n xs) {r : Nat} (hr : v.ownBlock = some r) : base ≤ r ∧ ∃ C, Blk W r C e := by
  rcases h.2 with ⟨rfl, _⟩ | ⟨g, cap, cur, rfl, hb, hg, _⟩
  · cases hr
  · cases hr
    exact ⟨hb, cur, hg⟩
theorem own_abide {A B : World} {row : Option Nat} {base n z : Nat} {e : TypeId} {v : Value} {xs : List Value} (h : A.ownsRow base e 1 v n xs) (hg : A.grownBy B row) (hr : ∀ r, row = some r → z ≤ r ∧ ∃ o, A.heap[r]? = some o ∧ o.isCells = false) : B.ownsRow base e 1 v n xs := by
  refine h.kept hg ?_
  cases hb : v.ownBlock with
  | none => exact .inl rfl
  | some g =>
    refine .inr fun e => ?_
    obtain ⟨_, C, hC⟩ := own_rowB h hb
    obtain ⟨_, o, ho, hc⟩ := hr g e.symm
    have hC' : A.heap[g]? = some (.cells C _) := hC
    rw [hC'] at ho
    cases ho
    cases hc
theorem results_ints {fn : Func} {p q : Tmp} (h : fn.results = #[.cell p 38, .cell q 61]) (tmps : Array Value) (w : World) (R1 R2 : Nat) (v1 v2 : Value) (hp : tmps.getD p undef = .pointer (some ⟨R1, 0, none⟩)) (hq : tmps.getD q undef = .pointer (some ⟨R2, 0, none⟩))
    (h1 : Blk w R1 #[v1] 38) (h2 : Blk w R2 #[v2] 61) : (results fn tmps).run Tryd.prog w = .ok (.tuple #[v1, v2]) w := by
  have c1 := (h1.cell 0).trans (show _ = some v1 from rfl)
  have c2 := (h2.cell 0).trans (show _ = some v2 from rfl)
  have hp' : tmps[p]?.getD undef = .pointer (some ⟨R1, 0, none⟩) := by rw [← Array.getD_eq_getD_getElem?]; exact hp
  have hq' : tmps[q]?.getD undef = .pointer (some ⟨R2, 0, none⟩) := by rw [← Array.getD_eq_getD_getElem?]; exact hq
  simp only [results, h]
  go_simp
/-- The numbers that were told. -/
def numX (pre : List TX) : List Int := pre.map (fun x => x.1.2.2)
theorem numX_len (pre : List TX) : (numX pre).length = pre.length := by unfold numX; simp
theorem numX_snoc (pre : List TX) (x : TX) : numX (pre ++ [x]) = numX pre ++ [x.1.2.2] := by unfold numX; simp
/-- Between two rounds of list. -/
structure LstI (w : World) (C : Array Value) (Z : TL) (pre : List TX) (W : World) : Prop where
  told : ∃ A, pre = upX A ∧ A <+: Z.1
  box : ∃ lv, Blk W (w.heap.size + 3) #[lv] 38 ∧ W.ownsRow w.heap.size 3 1 lv pre.length ((numX pre).map (Value.int .i64))
  tree : Blk W w.heap.size C 67
  res1 : Blk W (w.heap.size + 1) #[.slice none 0 0] 38
  res2 : Blk W (w.heap.size + 2) #[.nilIface] 61
  old : Below w.heap.size w W
  size : w.heap.size + 7 ≤ W.heap.size
theorem LstI.abides {w : World} {z : Nat} {C : Array Value} {Z : TL} (hz : w.heap.size ≤ z) : AbidesZ z (LstI w C Z) := by
  intro pre A B row h hg hr
  obtain ⟨lv, h1, h2⟩ := h.box
  exact ⟨h.told, ⟨lv, blk_abide h1 hg hr, own_abide h2 hg hr⟩, blk_abide h.tree hg hr, blk_abide h.res1 hg hr, blk_abide h.res2 hg hr, below_abide h.old hz (by have := h.size; omega) hg hr, Nat.le_trans h.size hg.size⟩
theorem one_newH (W : World) (v : Value) (t : TypeId) : ∀ j u, [v][j]? = some u → (W.alloc (.cells #[v] t)).cell? ((⟨W.heap.size, 0, none⟩ : Addr).add j) = some u := fun j u hj => by
  cases j with
  | zero =>
    rw [Addr.add_mid]
    refine ((Blk.new W #[v] t).cell (0 + 0)).trans ?_
    simpa using hj
  | succ j => simp at hj
set_option maxRecDepth 100000 in
set_option maxHeartbeats 4000000 in
theorem list_any (cnt sz : Nat) (zs : List Int) (C : Array Value) (Pv : Nat → Int) (iv : Value) (w : World) (Z : TL)
    (hC0 : C[0]? = some iv) (hC1 : C[1]? = some (.int .i64 (sz : Int))) (hCP : ∀ j, j < 14 → C[2 + j]? = some (.int .i64 (Pv j))) (hCs : C.size = 16) (hR : Rd .u8 w iv zs) (hz : zs.length ≤ 1048576) (hbd : ∀ z ∈ zs, 0 ≤ z ∧ z < 256) (hsz : sz ≤ 262144) (hcnt : cnt = (sz + 511) / 512)
    (hZ : Z = allT (topsT cnt (zs.length / 512) (wrdP zs) Pv)) :
    Calls Tryd.prog 43 #[.agg C] w fun e w' => ∃ v ev, e = .returned (.tuple #[v, ev]) ∧ ((Z.2 = false ∧ ev = .nilIface ∧ w'.ownsRow w.heap.size 3 1 v (numX (upX Z.1)).length ((numX (upX Z.1)).map (Value.int .i64))) ∨ (Z.2 = true ∧ v = .slice none 0 0 ∧ ∃ n, Flt w' 0 n ev 21)) ∧ Below w.heap.size w w' := by
  obtain ⟨i0, hi, hz0, hz1, hz2⟩ := info_parts infoI64
  have HT := hide (And.intro hi (And.intro hz0 (And.intro hz1 hz2)))
  clear hi hz0 hz1 hz2
  have HC := hide (And.intro hC0 (And.intro hC1 (And.intro hCP hCs)))
  have HR := hide (And.intro hR hbd)
  have HZ := hide hZ
  have HZl := hide (show Z.1.length ≤ 231182 by rw [hZ]; exact tops_len)
  clear hC0 hC1 hCP hCs hR hbd hZ
  obtain ⟨W0, hW0⟩ : ∃ W0, W0 = (((w.alloc (.cells C 67)).alloc (.cells #[.slice none 0 0] 38)).alloc (.cells #[.nilIface] 61)).alloc (.cells #[.slice none 0 0] 38) := ⟨_, rfl⟩
  have hs0 : W0.heap.size = w.heap.size + 4 := by rw [hW0]; simp
  have B0 := hide (show Below w.heap.size w W0 from by rw [hW0]; exact ((((Below.refl _ _).alloc (Nat.le_refl _) _).alloc (by simp) _).alloc (by simp; omega) _).alloc (by simp; omega) _)
  have K0 := hide (show Blk W0 w.heap.size C 67 from by rw [hW0]; exact (((Blk.new w C _).alloc _).alloc _).alloc _)
  have K1 := hide (show Blk W0 (w.heap.size + 1) #[.slice none 0 0] 38 from by have h := Blk.new (w.alloc (.cells C 67)) #[.slice none 0 0] 38; rw [World.size_alloc] at h; rw [hW0]; exact (h.alloc _).alloc _)
  have K2 := hide (show Blk W0 (w.heap.size + 2) #[.nilIface] 61 from by have h := Blk.new ((w.alloc (.cells C 67)).alloc (.cells #[.slice none 0 0] 38)) #[.nilIface] 61; rw [World.size_alloc, World.size_alloc] at h; rw [hW0]; exact h.alloc _)
  have K3 := hide (show Blk W0 (w.heap.size + 3) #[.slice none 0 0] 38 from by have h := Blk.new (((w.alloc (.cells C 67)).alloc (.cells #[.slice none 0 0] 38)).alloc (.cells #[.nilIface] 61)) #[.slice none 0 0] 38; rw [World.size_alloc, World.size_alloc, World.size_alloc] at h; rw [hW0]; exact h)
  have HW0 := hide hW0
  have HS0 := hide hs0
  clear hW0 hs0
  obtain ⟨WL, hWL⟩ : ∃ WL, WL = W0.alloc (.cells C 67) := ⟨_, rfl⟩
  have hs0a : W0.heap.size ≤ w.heap.size + 4 := by rw [HS0.out]; omega
  have hs0b : w.heap.size + 4 ≤ W0.heap.size := by rw [HS0.out]; omega
  have b0L : Below W0.heap.size W0 WL := by rw [hWL]; exact (Below.refl _ _).alloc (Nat.le_refl _) _
  have hsLe : WL.heap.size = W0.heap.size + 1 := by rw [hWL]; simp
  have hsLa : WL.heap.size ≤ W0.heap.size + 1 := by rw [hsLe]; omega
  have hsLb : W0.heap.size + 1 ≤ WL.heap.size := by rw [hsLe]; omega
  clear hsLe
  have I0 := hide (show ∀ W', Below WL.heap.size WL W' → WL.heap.size + 2 ≤ W'.heap.size → LstI w C Z [] W' from fun W' hb hs' => by
    have hb0 : Below W0.heap.size W0 W' := b0L.trans (hb.mono (by omega))
    exact ⟨⟨[], rfl, List.nil_prefix⟩, ⟨_, K3.out.below hb0 K3.out.lt, World.ownsRow_nil _ _ _ _⟩, K0.out.below hb0 K0.out.lt, K1.out.below hb0 K1.out.lt, K2.out.below hb0 K2.out.lt, B0.out.trans (hb0.mono (by omega)), by omega⟩)
  have HX := hide (show Blk WL W0.heap.size C 67 from by rw [hWL]; exact Blk.new W0 C 67)
  have HBL := hide (show Below w.heap.size w WL from B0.out.trans (b0L.mono (by omega)))
  have HWL := hide hWL
  clear hWL b0L
  refine (callsIn_wide (n := 6)).1 ?_
  refine callsIn_of_wp_marks Tryd.func43 rfl trivial ?_ rfl
  simp only [Tryd.ntmps43, List.size_toArray, List.length_cons, List.length_nil, Nat.reduceAdd, Nat.reduceSub, Array.replicate_succ, Array.replicate_zero, List.push_toArray, List.append_toArray, List.nil_append, List.cons_append]
  gi_upto_region 2 with fail
  rw [← HW0.out]
  refine wpIn_wide.2 ?_
  go_wp2_with (first
    | (refine wpList_load_row rfl 67 _ rfl w.heap.size rfl 67 C (0, 0) _ K0.out Tryd.underlying67 rfl (by rw [HC.out.2.2.2]; exact infoTr) ?_)
    | (go_at_call 65; refine (callsIn_wide.1 (blocks_in 0 C _)).mono ?_; rintro e w' ⟨rfl, rfl⟩))
  gi_wp2
  rw [← HWL.out]
  have hmx : Tryd.prog.follows .mixedOrders = true := by kernel_rfl
  refine wpIn_rangeGoesK (α := TX) rfl (by decide) (gf := 90) (lb := #[.pointer (some ⟨W0.heap.size, 0, none⟩)]) rfl trivial (enters_of Tryd.func90 (by kernel_rfl) rfl) (encs := TX.enc) (Kp := (Kq w.heap.size (WL.heap.size + 2) (fun t => t = 38 ∨ t = 3))) Kq.trans (fun A o o' ho hc => Kq.put o' (by omega) (by omega) ho hc)
    (Ok := OkX Z) (S := fun xs => (Z.2 = false ∧ xs = upX Z.1) ∨ (Z.2 = true ∧ ∃ x, xs = upX Z.1 ++ [x])) (Sp := fun _ => True)
    (fun W1 hb1 hs1 => by
      have := blocks_goes 5 (by omega) W0.heap.size w.heap.size (fun t => t = 38 ∨ t = 3) Z cnt sz zs C Pv iv w W1 (by decide) (by decide) (by decide) (by decide) HC.out.1 HC.out.2.1 HC.out.2.2.1 HC.out.2.2.2 HR.out.1 rfl hz HR.out.2 hsz hcnt HZ.out (HX.out.below hb1 HX.out.lt) (HBL.out.trans (hb1.mono (by omega))) (by omega)
      rw [hs1] at this
      exact this)
    (fun _ => rfl) (LstI w C Z)
    (fun c pre Wx => c = .ret ∧ Z.2 = true ∧ (∃ v, Blk Wx (w.heap.size + 1) #[.slice none 0 0] 38 ∧ Blk Wx (w.heap.size + 2) #[v] 61 ∧ ∃ n, Flt Wx 0 n v 21) ∧ Below w.heap.size w Wx)
    (LstI.abides (by omega))
    (by
      rintro c pre A B row ⟨h1, h2, ⟨v, h3, h4, n, h5⟩, h6⟩ hg hr
      exact ⟨h1, h2, ⟨v, blk_abide h3 hg hr, blk_abide h4 hg hr, n, flt_abide h5 hg hr⟩, below_abide h6 (by omega) h6.size hg hr⟩)
    (fun W' hb hs' => I0.out W' hb (by omega))
    (fun pre x a' Wx => ∃ c, a' = { tmps := #[.agg C, .pointer (some ⟨w.heap.size, 0, none⟩), .pointer (some ⟨w.heap.size + 1, 0, none⟩), .pointer (some ⟨w.heap.size + 1 + 1, 0, none⟩), .pointer (some ⟨w.heap.size + 1 + 1 + 1, 0, none⟩), .pointer (some ⟨c, 0, none⟩), x.2, .agg C, .func (.func 90) #[] #[.pointer (some ⟨W0.heap.size, 0, none⟩)], .agg #[.int .i64 (x.1.1 : Int), .int .i64 (x.1.2.1 : Int), .int .i64 x.1.2.2], x.2, undef, undef, undef, undef, undef, undef, undef, undef, undef], defers := [] } ∧ Blk Wx c #[.int .i64 (x.1.1 : Int), .int .i64 (x.1.2.1 : Int), .int .i64 x.1.2.2] 131 ∧ (LstI w C Z) pre Wx ∧ OkX Z pre x Wx) ?ax ?assign ?body ?done ?stop
  case ax =>
    rintro pre x a' A B ⟨c, h1, h2, h3, h4⟩ hg hr
    exact ⟨c, h1, blk_bare h2 hg hr, LstI.abides (z := WL.heap.size + 1) (by omega) pre A B _ h3 hg (fun r e => by cases e; exact ⟨Nat.le_refl _, hr⟩), okX_abide (z := 0) h4 hg (fun r e => by cases e; exact ⟨Nat.zero_le _, hr⟩)⟩
  case assign =>
    rintro l pre ⟨⟨lv, rk, p⟩, ev⟩ Wx K hI hok hK
    have HK := hide (And.intro hI (And.intro hok hK))
    clear hI hok hK
    unfold TX.enc
    gi_wp2
    have bA : Below Wx.heap.size Wx (Wx.alloc (.cells #[.int .i64 (lv : Int), .int .i64 (rk : Int), .int .i64 p] 131)) := (Below.refl _ _).alloc (Nat.le_refl _) _
    have gA : Wx.grownBy (Wx.alloc (.cells #[.int .i64 (lv : Int), .int .i64 (rk : Int), .int .i64 p] 131)) none := ⟨bA.os, bA.tape, bA.output, bA.size, fun k hk _ => bA.block k hk⟩
    exact HK.out.2.2 _ _ (keeps_belowT bA) (Kq.of_below bA (by have := HK.out.1.size; omega)) ⟨_, rfl, Blk.new _ _ _, LstI.abides (z := w.heap.size) (Nat.le_refl _) pre _ _ none HK.out.1 gA (fun r e => by cases e), okX_abide (z := 0) HK.out.2.1 gA (fun r e => by cases e)⟩
  case body =>
    rintro l pre ⟨⟨lv, rk, p⟩, ev⟩ a' Wx ⟨c, rfl, kc, hI, hok⟩
    dsimp only at kc ⊢
    have hIs := hI.size
    rcases hok with ⟨hev, A, hA, hpre⟩ | ⟨hx0, A, hA, hZt, nf, hfl⟩
    · dsimp only at hev
      subst hev
      have HT2 := hide (show ∃ A', pre ++ [((lv, rk, p), Value.nilIface)] = upX A' ∧ A' <+: Z.1 from ⟨A ++ [(lv, rk, p)], by rw [upX_snoc, hA], hpre⟩)
      have hpl : pre.length + 1 ≤ 231182 := by
        have h1 := hpre.length_le
        have h2 := HZl.out
        have h3 : pre.length = A.length := by rw [hA]; unfold upX; simp
        simp at h1
        omega
      obtain ⟨lw, hbx, hrow⟩ := hI.box
      obtain ⟨a', cap', rfl⟩ := own_shape5 hrow
      have c2 := (kc.cell 2).trans (show _ = some (.int .i64 p) from rfl)
      have cL : Wx.cell? ⟨w.heap.size + 1 + 1 + 1, 0, none⟩ = some (.slice a' pre.length cap') := (hbx.cell 0).trans rfl
      have HI := hide hI
      have HB := hide hbx
      have HRow := hide hrow
      clear hI kc hpre hA hbx hrow
      gi_wp2_with (first
        | (gi_at_builtin; refine wpListIn_append_own _ rfl _ _ 38 rfl w.heap.size 3 i0 (.int .i64 0) 1 8 Tryd.underlying38 HT.out.1 HT.out.2.1 HT.out.2.2.1 HT.out.2.2.2 rfl (by decide) _ _ _ rfl (HRow.out.alloc _) ⟨Wx.heap.size, 0, none⟩ 1 1 [.int .i64 p] rfl rfl (one_newH _ _ _) (by simp [Value.oneCell']) (by unfold maxLen; omega) (by omega) (by simp; omega) ?_; intro v' w1 hown' hgrow _; obtain ⟨a1, cap1, rfl⟩ := own_shape5 hown'; have HA := hide (And.intro hown' hgrow); clear hown' hgrow; have HK1 := hide (blk_own (HRow.out.alloc _) (HB.out.alloc _) (by decide) HA.out.2); have cL1 : w1.cell? ⟨w.heap.size + 1 + 1 + 1, 0, none⟩ = some (.slice a' pre.length cap') := (HK1.out.cell 0).trans rfl; have fL1 := HK1.out.frozen 0))
      obtain ⟨WF, hWF⟩ : ∃ WF, WF = w1.setCell ⟨w.heap.size + 1 + 1 + 1, 0, none⟩ (.slice a1 (pre.length + 1) cap1) := ⟨_, rfl⟩
      have kF : ∀ z, Kq w.heap.size z (fun t => t = 38 ∨ t = 3) Wx WF := fun z => by
        have bA : Below Wx.heap.size Wx (Wx.alloc (.cells #[.int .i64 p] 3)) := (Below.refl _ _).alloc (Nat.le_refl _) _
        have s1 := HA.out.2.size
        have s0 := bA.size
        refine ((Kq.of_below bA (by omega)).trans (Kq.grown HA.out.2 (by omega) (fun r e => ?_))).trans ?_
        · obtain ⟨h1, C1, h2⟩ := own_rowB (HRow.out.alloc _) e
          exact ⟨h1, C1, _, h2, .inr rfl⟩
        · rw [hWF]
          exact Kq.grown (grownBy_setCell' w1 (w.heap.size + 3) _) (by omega) (fun r e => by cases e; exact ⟨by omega, _, _, HK1.out, .inl rfl⟩)
      have HN := hide (show LstI w C Z (pre ++ [((lv, rk, p), Value.nilIface)]) WF from by
        have hoth : ∀ {b : Nat} {Cb : Array Value} {t : TypeId}, t ≠ 3 → b ≠ w.heap.size + 3 → Blk Wx b Cb t → Blk WF b Cb t := fun ht hb h => by
          rw [hWF]
          exact (blk_own (HRow.out.alloc _) (h.alloc _) ht HA.out.2).other _ _ hb
        refine ⟨HT2.out, ⟨.slice a1 (pre.length + 1) cap1, by rw [hWF]; exact HK1.out.set 0 _, ?_⟩, hoth (by decide) (by omega) HI.out.tree, hoth (by decide) (by omega) HI.out.res1, hoth (by decide) (by omega) HI.out.res2, HI.out.old.trans (kF 0).below, Nat.le_trans HI.out.size (kF 0).size⟩
        rw [hWF, numX_snoc, List.map_append, show (pre ++ [((lv, rk, p), Value.nilIface)]).length = pre.length + 1 from by simp]
        exact own_setT HA.out.1 HK1.out (by decide))
      rw [← hWF]
      exact ⟨(kF _).keepsZ, kF _, HN.out⟩
    · obtain ⟨t', x', rfl⟩ := hfl.iface
      have HI := hide (And.intro hI hfl)
      have c1 := (hI.res1.cell 0).trans (show _ = some (.slice none 0 0) from rfl)
      have f1 := hI.res1.frozen 0
      have c2 := (hI.res2.cell 0).trans (show _ = some .nilIface from rfl)
      have f2 := hI.res2.frozen 0
      have HZt := hide (show Z.2 = true by rw [hZt])
      clear hI hfl hA hZt
      gi_wp2
      have hfin : Blk ((Wx.setCell ⟨w.heap.size + 1, 0, none⟩ (.slice none 0 0)).setCell ⟨w.heap.size + 1 + 1, 0, none⟩ (.iface t' (.pointer (some x')))) (w.heap.size + 1) #[.slice none 0 0] 38 ∧ Blk ((Wx.setCell ⟨w.heap.size + 1, 0, none⟩ (.slice none 0 0)).setCell ⟨w.heap.size + 1 + 1, 0, none⟩ (.iface t' (.pointer (some x')))) (w.heap.size + 2) #[.iface t' (.pointer (some x'))] 61 ∧ ∃ n, Flt ((Wx.setCell ⟨w.heap.size + 1, 0, none⟩ (.slice none 0 0)).setCell ⟨w.heap.size + 1 + 1, 0, none⟩ (.iface t' (.pointer (some x')))) 0 n (.iface t' (.pointer (some x'))) 21 := by
        have k2 := HI.out.1.res2.other ⟨w.heap.size + 1, 0, none⟩ (.slice none 0 0) (by show w.heap.size + 2 ≠ w.heap.size + 1; omega)
        refine ⟨(HI.out.1.res1.set 0 (.slice none 0 0)).other ⟨w.heap.size + 1 + 1, 0, none⟩ _ (by show w.heap.size + 1 ≠ w.heap.size + 1 + 1; omega), k2.set 0 _, nf, ?_⟩
        exact flt_set k2 (by intro k z h; cases h) _ (flt_set HI.out.1.res1 (by intro k z h; cases h) _ HI.out.2)
      have hold := (HI.out.1.old.setCell (p := ⟨w.heap.size + 1, 0, none⟩) (by show w.heap.size ≤ w.heap.size + 1; omega) (.slice none 0 0)).setCell (p := ⟨w.heap.size + 1 + 1, 0, none⟩) (by show w.heap.size ≤ w.heap.size + 1 + 1; omega) (.iface t' (.pointer (some x')))
      exact ⟨((KeepsOthers.setCell _ _ _).trans (KeepsOthers.setCell _ _ _)).from _, ⟨rfl, HZt.out, ⟨hfin.1, _, hfin.2⟩, hold⟩⟩
  case done =>
    rintro xs Wx hS hI hK
    obtain ⟨lw, hbx, hrow⟩ := hI.box
    obtain ⟨a', cap', rfl⟩ := own_shape5 hrow
    have HI := hide (And.intro hI hK)
    have HSx := hide hS
    have HRow := hide hrow
    have hb : Wx.cell? ⟨w.heap.size + 1 + 1 + 1, 0, none⟩ = some (.slice a' xs.length cap') := (hbx.cell 0).trans rfl
    have c1 := (hI.res1.cell 0).trans (show _ = some (.slice none 0 0) from rfl)
    have f1 := hI.res1.frozen 0
    have c2 := (hI.res2.cell 0).trans (show _ = some .nilIface from rfl)
    have f2 := hI.res2.frozen 0
    clear hI hK hS hbx hrow
    gi_wp2
    have hZ0 : Z.2 = false ∧ xs = upX Z.1 := by
      rcases HSx.out with h | ⟨h, x, hx⟩
      · exact h
      · exfalso
        obtain ⟨A, hA, hp⟩ := HI.out.1.told
        have h1 := congrArg List.length (hx.symm.trans hA)
        have h2 := hp.length_le
        unfold upX at h1
        simp at h1
        omega
    obtain ⟨hZ1, rfl⟩ := hZ0
    obtain ⟨WE, hWE⟩ : ∃ WE, WE = (Wx.setCell ⟨w.heap.size + 1, 0, none⟩ (.slice a' (upX Z.1).length cap')).setCell ⟨w.heap.size + 1 + 1, 0, none⟩ .nilIface := ⟨_, rfl⟩
    rw [← hWE]
    have r2a := HI.out.1.res2.other ⟨w.heap.size + 1, 0, none⟩ (.slice a' (upX Z.1).length cap') (by show w.heap.size + 2 ≠ w.heap.size + 1; omega)
    have r1 : Blk WE (w.heap.size + 1) #[.slice a' (upX Z.1).length cap'] 38 := by rw [hWE]; exact (HI.out.1.res1.set 0 _).other _ _ (by show w.heap.size + 1 ≠ w.heap.size + 1 + 1; omega)
    have r2 : Blk WE (w.heap.size + 1 + 1) #[.nilIface] 61 := by rw [hWE]; exact r2a.set 0 .nilIface
    have rg : WE.ownsRow w.heap.size 3 1 (.slice a' (upX Z.1).length cap') (upX Z.1).length ((numX (upX Z.1)).map (Value.int .i64)) := by rw [hWE]; exact own_setT (own_setT HRow.out HI.out.1.res1 (by decide)) r2a (by decide)
    have hD : WE.heap[WL.heap.size]? = some (.deferred (some [])) := by rw [hWE]; exact (KeepsOthers.setCell _ _ _).same _ _ ((KeepsOthers.setCell _ _ _).same _ _ HI.out.2 rfl) rfl
    have hbE : Below w.heap.size w WE := by rw [hWE]; exact (HI.out.1.old.setCell (p := ⟨w.heap.size + 1, 0, none⟩) (by show w.heap.size ≤ w.heap.size + 1; omega) _).setCell (p := ⟨w.heap.size + 1 + 1, 0, none⟩) (by show w.heap.size ≤ w.heap.size + 1 + 1; omega) _
    refine ⟨by simp, .inl ⟨_, _, rfl, run_takeDeferred hD, ?_⟩⟩
    refine ⟨_, results_ints rfl _ _ (w.heap.size + 1) (w.heap.size + 1 + 1) _ _ rfl rfl (blk_put _ r1 hD rfl) (blk_put _ r2 hD rfl), _, _, rfl, .inl ⟨hZ1, rfl, ?_⟩, ?_⟩
    · rw [numX_len]
      exact own_abide (z := 0) rg (grownBy_putObj' _ _ _) (fun r e => by cases e; exact ⟨Nat.zero_le _, _, hD, rfl⟩)
    · exact hbE.trans (belowK_b (w := w) (Nat.le_refl _) WE WL.heap.size _ (.deferred none) (by omega) hD rfl rfl)
  case stop =>
    rintro c pre Wx _ ⟨rfl, hZ2, ⟨v, h3, h4, n, h5⟩, h6⟩ hK
    have HI := hide (And.intro hZ2 (And.intro h3 (And.intro h4 (And.intro h5 (And.intro h6 hK)))))
    clear hZ2 h3 h4 h5 h6 hK
    gi_wp2
    have hD := HI.out.2.2.2.2.2
    refine ⟨by simp, .inl ⟨_, _, rfl, run_takeDeferred hD, ?_⟩⟩
    refine ⟨_, results_ints rfl _ _ (w.heap.size + 1) (w.heap.size + 1 + 1) _ _ rfl rfl (blk_put _ HI.out.2.1 hD rfl) (blk_put _ HI.out.2.2.1 hD rfl), _, _, rfl, .inr ⟨HI.out.1, rfl, n, ?_⟩, ?_⟩
    · exact flt_abide (z := 0) HI.out.2.2.2.1 (grownBy_putObj' _ _ _) (fun r e => by cases e; exact ⟨Nat.zero_le _, _, hD, rfl⟩)
    · exact HI.out.2.2.2.2.1.trans (belowK_b (w := w) (Nat.le_refl _) Wx WL.heap.size _ (.deferred none) (by omega) hD rfl rfl)
end Go.Proofs.YtlegmaadcemgnaaDoor

namespace Go.Proofs.YtlegmaadcemgnaaDoor
set_option linter.unusedVariables false
set_option linter.unusedSimpArgs false
open Go.RowKit

theorem toldI_nil (w : World) (a : Option Addr) (len cap : Nat) :
    Calls Tryd.prog 42 #[.slice a len cap, .nilIface] w fun e w' => e = .returned (.tuple #[.slice a len cap, .int .i64 0]) ∧ w' = w := by
  go_enter Tryd.func42, Tryd.ntmps42
  go_wp2
  go_ret2
  exact ⟨rfl, rfl⟩
theorem toldI_bad (w : World) (a : Option Addr) (len cap m lo : Nat) (ev : Value) (code : Int) (hf : Flt w lo m ev code) (hg : ErrT w) :
    Calls Tryd.prog 42 #[.slice a len cap, ev] w fun e w' => e = .returned (.tuple #[.slice none 0 0, .int .i64 code]) ∧ Below w.heap.size w w' := by
  obtain ⟨t', x', rfl⟩ := hf.iface
  have H4 := hide hf
  have HG := hide hg
  clear hf hg
  go_enter Tryd.func42, Tryd.ntmps42
  go_wp2_with (go_at_call 28; refine (codeOf_any m _ code _ _ H4.out HG.out).mono ?_; rintro e w3 ⟨rfl, hb3⟩)
  go_ret2
  exact ⟨rfl, hb3⟩
/-- The numbers that TreeBlocks answers. -/
def tbB (zs : List Int) (s : Int) (ds : List Int) (p q : Int) : List Int := if okR zs s ds p q = true ∧ (ZR zs s ds p q).2 = false then numX (upX (ZR zs s ds p q).1) else []
set_option maxRecDepth 100000 in
set_option maxHeartbeats 2000000 in
/-- The program's TreeBlocks. -/
theorem implTB_any (img : Value) (zs : List Int) (s : Int) (ds : List Int) (p q : Int) (w : World) (h : Rd .u8 w img zs) (hz : zs.length ≤ 1048576) (hbd : ∀ z ∈ zs, 0 ≤ z ∧ z < 256) (hd : ds.length = 12) (hg : ErrT w) :
    Calls Tryd.prog 21 #[img, .agg (cellsI (rootI s ds p q))] w fun e w' => ∃ v, e = .returned (.tuple #[v, .int .i64 (trC zs s ds p q)]) ∧ w'.ownsRow w.heap.size 3 1 v (tbB zs s ds p q).length ((tbB zs s ds p q).map (Value.int .i64)) ∧ Below w.heap.size w w' := by
  have HR := hide (And.intro h (And.intro hbd (And.intro hd hg)))
  have hRl := rootI_len s ds p q hd
  have HZ := hide (show (cellsI (rootI s ds p q)).size = 15 from by rw [cellsI_size]; exact hRl)
  obtain ⟨sa, sc, rfl⟩ := rd_shapeT h
  have HTs := hide (treT_size (.slice sa zs.length sc) _ hRl)
  obtain ⟨Z1, hZ1, hAl⟩ := letTr
  have HAl := hide (And.intro hZ1 hAl)
  have HRl := hide hRl
  clear h hbd hd hRl hZ1 hAl hg
  have b0 : Below w.heap.size w (w.alloc (.cells (cellsI (rootI s ds p q)) 34)) := (Below.refl _ _).alloc (Nat.le_refl _) _
  have HB0 := hide b0
  clear b0
  go_enter Tryd.func21, Tryd.ntmps21
  go_upto_region 2 with (first
    | (refine wpList_load_row rfl 34 _ rfl w.heap.size rfl 34 (cellsI (rootI s ds p q)) (0, 0) _ (Blk.new w _ _) Tryd.underlying34 rfl (by rw [HZ.out]; exact info15) ?_)
    | (go_at_call 41; refine (openTree_any _ zs s ds p q _ (HR.out.1.below HB0.out) hz HR.out.2.2.1).mono ?_; rintro e w2 ⟨ev, rfl, f2, b2⟩; have H2 := hide (And.intro f2 b2); clear f2 b2)
    | (refine Great.wpList_allocTo rfl (some 6) rfl (.pointer (some ⟨w2.heap.size, 0, none⟩)) (.cells Z1 67) (HAl.out.2 _ _ _ rfl) ?_)
    | (refine wpList_store_row rfl 67 _ _ rfl w2.heap.size (treT (.slice sa zs.length sc) (rootI s ds p q)) rfl rfl 67 Z1 (Blk.new w2 _ _) (by rw [HTs.out]; exact infoTr) (by rw [HTs.out]; exact HAl.out.1) (treT_one _) ?_))
  obtain ⟨W3, hW3⟩ : ∃ W3, W3 = (w2.alloc (.cells Z1 67)).setRow w2.heap.size (treT (.slice sa zs.length sc) (rootI s ds p q)) := ⟨_, rfl⟩
  have K3 := hide (show Blk W3 w2.heap.size (treT (.slice sa zs.length sc) (rootI s ds p q)) 67 from by rw [hW3]; exact (Blk.new w2 Z1 67).row _)
  have B3 := hide (show Below w2.heap.size w2 W3 from by rw [hW3]; exact below_setRow ((Below.refl _ _).alloc (Nat.le_refl _) _) (Nat.le_refl _) _)
  rw [← hW3]
  clear hW3
  have BW := hide (show Below w.heap.size w W3 from HB0.out.trans ((H2.out.2.trans (B3.out.mono H2.out.2.size)).mono HB0.out.size))
  cases hok : szOk zs.length && rightR s ds p q with
  | false =>
    have hf := H2.out.1
    rw [hok] at hf
    rcases hf with ⟨hf, _⟩ | ⟨_, m, hf⟩
    · cases hf
    obtain ⟨t', x', rfl⟩ := hf.iface
    have HF := hide (hf.below B3.out)
    have HC := hide (show trC zs s ds p q = 7 ∧ tbB zs s ds p q = [] from ⟨by unfold trC okR; rw [hok, if_pos rfl], by unfold tbB okR; rw [hok, if_neg (by simp)]⟩)
    clear hf hok
    go_wp2_with (go_at_call 28; refine (codeOf_any m _ 7 _ _ HF.out (HR.out.2.2.2.below BW.out)).mono ?_; rintro e w4 ⟨rfl, b4⟩; have HB4 := hide b4; clear b4)
    go_ret2
    exact ⟨_, by rw [HC.out.1]; rfl, by rw [HC.out.2]; exact World.ownsRow_nil _ _ _ _, BW.out.trans (HB4.out.mono BW.out.size)⟩
  | true =>
    have hf := H2.out.1
    rw [hok] at hf
    rcases hf with ⟨_, rfl⟩ | ⟨hf, _⟩
    rotate_left
    · cases hf
    have hr : rightR s ds p q = true := by rw [Bool.and_eq_true] at hok; exact hok.2
    obtain ⟨hs0, hs1⟩ := right_size hr
    obtain ⟨sz, rfl⟩ : ∃ sz : Nat, s = (sz : Int) := ⟨s.toNat, by omega⟩
    have HOk := hide (show okR zs (sz : Int) ds p q = true from hok)
    clear hok hr hs0
    have hRl := HRl.out
    have hX := fun k hk => treT_k (.slice sa zs.length sc) (rootI (sz : Int) ds p q) k hk
    have HX := hide (show (treT (.slice sa zs.length sc) (rootI (sz : Int) ds p q))[1]? = some (.int .i64 (sz : Int)) ∧ ∀ j, j < 14 → (treT (.slice sa zs.length sc) (rootI (sz : Int) ds p q))[2 + j]? = some (.int .i64 ((ds ++ [p, q]).getD j 0)) from by
      refine ⟨(hX 0 (by omega)).trans (by simp [rootI]), fun j hj => ?_⟩
      have := hX (j + 1) (by omega)
      rw [show 1 + (j + 1) = 2 + j by omega] at this
      rw [this]
      simp [rootI, List.getD])
    clear hX hRl
    go_wp2_with (first
      | (refine wpList_load_row rfl 67 _ rfl w2.heap.size rfl 67 (treT (.slice sa zs.length sc) (rootI (sz : Int) ds p q)) (0, 0) _ K3.out Tryd.underlying67 rfl (by rw [HTs.out]; exact infoTr) ?_)
      | (go_at_call 43; refine (list_any ((sz + 511) / 512) sz zs _ (fun j => (ds ++ [p, q]).getD j 0) _ _ (ZR zs (sz : Int) ds p q) (treT_0 _ _) HX.out.1 HX.out.2 HTs.out (HR.out.1.below BW.out) hz HR.out.2.1 (by omega) rfl rfl).mono ?_; rintro e w5 ⟨v, ev, rfl, h5, b5⟩; have H5 := hide (And.intro h5 b5); clear h5 b5)
      | (go_at_call 42; fail))
    have B5 := hide (BW.out.trans (H5.out.2.mono BW.out.size))
    rcases H5.out.1 with ⟨hZ0, rfl, o5⟩ | ⟨hZ1, rfl, m, f5⟩
    · obtain ⟨va, vc, rfl⟩ := own_shape5 o5
      have HC := hide (show trC zs (sz : Int) ds p q = 0 ∧ tbB zs (sz : Int) ds p q = numX (upX (ZR zs (sz : Int) ds p q).1) from ⟨by unfold trC; rw [HOk.out, hZ0]; simp, by unfold tbB; rw [if_pos ⟨HOk.out, hZ0⟩]⟩)
      have HO := hide (own_mono o5 BW.out.size)
      clear o5 hZ0
      refine (toldI_nil w5 va _ vc).mono ?_
      rintro e w6 ⟨rfl, rfl⟩
      go_wp2
      go_ret2
      exact ⟨_, by rw [HC.out.1]; rfl, by rw [HC.out.2]; exact HO.out, B5.out⟩
    · have HC := hide (show trC zs (sz : Int) ds p q = 21 ∧ tbB zs (sz : Int) ds p q = [] from ⟨by unfold trC; rw [HOk.out, hZ1]; simp, by unfold tbB; rw [if_neg (by rw [hZ1]; simp)]⟩)
      have HF := hide f5
      clear f5 hZ1
      refine (toldI_bad w5 none 0 0 m 0 ev _ HF.out (HR.out.2.2.2.below B5.out)).mono ?_
      rintro e w6 ⟨rfl, b6⟩
      have HB6 := hide b6
      clear b6
      go_wp2
      go_ret2
      exact ⟨_, by rw [HC.out.1]; rfl, by rw [HC.out.2]; exact World.ownsRow_nil _ _ _ _, B5.out.trans (HB6.out.mono B5.out.size)⟩
end Go.Proofs.YtlegmaadcemgnaaDoor

namespace Go.Proofs.YtlegmaadcemgnaaDoor
set_option linter.unusedVariables false
set_option linter.unusedSimpArgs false
open Go.RowKit

theorem cutM_len (L : List Int) (lo hi : Nat) : (cutM L lo hi).length ≤ hi - lo := by unfold cutM; rw [List.length_take]; omega
theorem rd_emptyI (w : World) (a : Option Addr) (c : Nat) (hc : c ≤ maxLen) : Rd .i64 w (.slice a 0 c) [] := ⟨a, c, rfl, by simp, fun h => absurd rfl h, by simp, hc⟩
theorem rd_capI {k : IntKind} {w : World} {a : Option Addr} {n c : Nat} {zs : List Int} (h : Rd k w (.slice a n c) zs) : n = zs.length ∧ n ≤ c ∧ c ≤ maxLen := by
  obtain ⟨a', c', e, _, _, h3, h4⟩ := h
  injection e with e1 e2 e3
  subst e1 e2 e3
  exact ⟨rfl, h3, h4⟩
set_option maxRecDepth 100000 in
theorem cut_res {w : World} {a : Option Addr} {cap : Nat} {L : List Int} (h : Rd .i64 w (.slice a L.length cap) L) (lo hi l2 h2 : Nat) (e1 : l2 = min lo L.length) (e2 : h2 = min hi L.length) (hlh : lo ≤ hi) :
    ∃ a', Rd .i64 w (.slice a' (h2 - l2) (cap - l2)) (cutM L lo hi) ∧ ∀ wx, (Instr.slice 38 (.slice a L.length cap) (some (.int .i64 (l2 : Int))) (some (.int .i64 (h2 : Int))) none).run Tryd.prog wx = .ok (.slice a' (h2 - l2) (cap - l2)) wx := by
  obtain ⟨i0, hi0, hz0, hz1, hz2⟩ := info_parts infoI64
  obtain ⟨_, hc1, hc2⟩ := rd_capI h
  refine ⟨if cap = l2 then a else a.map (·.add (l2 * 1)), ?_, fun wx => ?_⟩
  · by_cases hm : l2 < h2
    · have hne : 0 < L.length := by omega
      obtain ⟨b, off, cp, e, hb, hlc, hcm, hcell⟩ := h.partsC hne
      injection e with e1' e2' e3
      subst e1' e3
      have hr := Rd.cut2 l2 (h2 - l2) h (by omega) (by omega)
      have e4 : cutM L lo hi = (L.drop l2).take (h2 - l2) := by
        unfold cutM
        have : l2 = lo := by omega
        rw [this, List.take_eq_take_iff, List.length_drop]
        omega
      rw [e4, if_neg (by omega), Option.map_some, Nat.mul_one, Addr.add_mid]
      exact hr
    · have e4 : cutM L lo hi = [] := by
        unfold cutM
        apply List.eq_nil_of_length_eq_zero
        rw [List.length_take, List.length_drop]
        omega
      rw [e4, show h2 - l2 = 0 by omega]
      exact rd_emptyI _ _ _ (by omega)
  · rw [run_slice_lh (P := Tryd.prog) (w := wx) 38 _ _ cap (by rw [Tryd.underlying38]; rfl) .i64 .i64 (l2 : Int) (h2 : Int) (by omega) (by omega) (by omega)]
    simp [sizeOf, typeInfo, show Tryd.prog.elem 38 = 3 from by kernel_rfl, hi0, hz1, Result.andThen, sliced]
set_option maxRecDepth 100000 in
set_option maxHeartbeats 1000000 in
theorem cut_any (v : Value) (L : List Int) (lo hi : Nat) (w : World) (h : Rd .i64 w v L) (hlh : lo ≤ hi) (hhi : hi ≤ 1048576) (hl : L.length ≤ 1048576) :
    Calls Tryd.prog 39 #[v, .int .i64 (lo : Int), .int .i64 (hi : Int)] w fun e w' => ∃ a n c, e = .returned (.slice a n c) ∧ Rd .i64 w (.slice a n c) (cutM L lo hi) ∧ w' = w := by
  obtain ⟨a, cap, rfl⟩ := rd_shapeT h
  have HH := hide h
  clear h
  by_cases g1 : (L.length : Int) < (lo : Int)
  · have g2 : (L.length : Int) < (hi : Int) := by omega
    obtain ⟨a', hr, hsl⟩ := cut_res HH.out lo hi L.length L.length (by omega) (by omega) hlh
    have HP := hide hr
    clear hr hlh
    go_enter Tryd.func39, Tryd.ntmps39
    go_wp2
    go_ret
    exact ⟨_, _, _, rfl, by have := HP.out; rwa [Nat.sub_self] at this, rfl⟩
  · by_cases g2 : (L.length : Int) < (hi : Int)
    · obtain ⟨a', hr, hsl⟩ := cut_res HH.out lo hi lo L.length (by omega) (by omega) hlh
      have HP := hide hr
      clear hr hlh
      go_enter Tryd.func39, Tryd.ntmps39
      go_wp2
      go_ret
      exact ⟨_, _, _, rfl, HP.out, rfl⟩
    · obtain ⟨a', hr, hsl⟩ := cut_res HH.out lo hi lo hi (by omega) (by omega) hlh
      have HP := hide hr
      clear hr hlh
      go_enter Tryd.func39, Tryd.ntmps39
      go_wp2
      go_ret
      exact ⟨_, _, _, rfl, HP.out, rfl⟩
theorem rd_oneI (w : World) (p : Int) : Rd .i64 (w.alloc (.cells #[.int .i64 p] 3)) (.slice (some ⟨w.heap.size, 0, none⟩) 1 1) [p] := by
  refine ⟨_, _, rfl, by simp [maxLen], fun _ => ⟨w.heap.size, 0, rfl, by simp, fun i hi => ?_⟩, by simp, by unfold maxLen; omega⟩
  have : i = 0 := by simpa using hi
  subst this
  exact ((Blk.new w #[.int .i64 p] 3).cell 0).trans rfl
/-- An append of what is read, maybe nothing. -/
theorem wpList_append_rdI {P : Program} (w : World) {ops : Array Oper} {rest : List Oper} {o : Oper} {a : Act} {Q : Exit → Act → World → Prop}
    (hg : o.guard = none) (s x : Operand) (t : TypeId) (hop : o.op = Op.call { callee := Callee.builtin Builtin.append, args := #[s, x], argTypes := #[t, t] })
    (base : Nat) (e : TypeId) (i : TypeInfo) (h1 : P.underlying t = some (.slice e)) (h2 : P.info? e = some i) (h3 : i.zero = some (.int .i64 0)) (h4 : i.size = 1) (h5 : i.bytes = 8)
    (sv : Value) (n : Nat) (xs : List Int) (hs : a.eval s = sv) (hown : w.ownsRow base e 1 sv n (xs.map (Value.int .i64)))
    (v : Value) (zs : List Int) (hx : a.eval x = v) (hr : Rd .i64 w v zs) (hb : n + zs.length ≤ 1000000) (hbase : base ≤ w.heap.size)
    (hK : ∀ a' c' m w', m = n + zs.length → w'.ownsRow base e 1 (.slice a' m c') m ((xs ++ zs).map (Value.int .i64)) → Below base w w' → wpList P ops Q rest (a.put o.dst (.slice a' m c')) w') :
    wpList P ops Q (o :: rest) a w := by
  by_cases hz : 0 < zs.length
  · obtain ⟨bd, off, cp, rfl, hbw, _, _, hcell⟩ := hr.partsC hz
    refine wpList_append_own_at _ hg s x t hop base e i (.int .i64 0) 1 8 h1 h2 h3 h4 h5 rfl (by decide) sv n _ hs hown ⟨bd, off, none⟩ zs.length cp (zs.map (Value.int .i64)) hx (by simp) (fun j u hj => ?_) (ints_oneCell _ _) (by unfold maxLen; omega) (by omega) hbase ?_
    · have hjl : j < zs.length := by
        rcases Nat.lt_or_ge j zs.length with h | h
        · exact h
        · rw [List.getElem?_eq_none (by simpa using h)] at hj; cases hj
      rw [Addr.add_mid, hcell j hjl]
      rw [List.getElem?_map, List.getElem?_eq_getElem hjl] at hj
      simp at hj
      rw [← hj]
      simp [List.getD, hjl]
    · intro v' w' r1 r2 _ _
      obtain ⟨a', c', rfl⟩ := own_shapeT r1
      exact hK a' c' _ w' rfl (by rw [List.map_append]; exact r1) ((Below.refl _ _).grown r2 hbase (fun r e => (hown.lt r e).1))
  · have hz0 : zs = [] := List.eq_nil_of_length_eq_zero (by omega)
    subst hz0
    obtain ⟨a3, c3, rfl⟩ : ∃ a3 c3, v = .slice a3 0 c3 := by obtain ⟨a3, c3, e3, _⟩ := hr; exact ⟨a3, c3, e3⟩
    refine wpList_append_emptyM hg s x t hop base e i 1 h1 h2 _ n _ hs hown a3 c3 hx ?_
    obtain ⟨a', c', rfl⟩ := own_shapeT hown
    exact hK a' c' n w (by simp) (by simpa using hown) (Below.refl _ _)
theorem some_snoc (L : List Int) (k : Nat) (h : k < L.length) : someM (L.take (k + 1)) = someM (L.take k) ++ (if L.getD k 0 = 0 then [] else [L.getD k 0]) := by
  rw [List.take_succ_eq_append_getElem h, some_append, some_one]
  simp [List.getD, h]
theorem some_len (L : List Int) : (someM L).length ≤ L.length := List.length_filter_le _ _
set_option maxRecDepth 100000 in
set_option maxHeartbeats 1000000 in
theorem some_any (v : Value) (L : List Int) (w : World) (h : Rd .i64 w v L) (hl : L.length ≤ 100000) :
    Calls Tryd.prog 40 #[v] w fun e w' => ∃ v', e = .returned v' ∧ w'.ownsRow w.heap.size 3 1 v' (someM L).length ((someM L).map (Value.int .i64)) ∧ Below w.heap.size w w' := by
  obtain ⟨i0, hi, hz0, hz1, hz2⟩ := info_parts infoI64
  obtain ⟨a, cap, rfl⟩ := rd_shapeT h
  have HR := hide h
  have HT := hide (And.intro hi (And.intro hz0 (And.intro hz1 hz2)))
  clear h hi hz0 hz1 hz2
  go_enter Tryd.func40, Tryd.ntmps40
  go_upto_region 2 with fail
  obtain ⟨W5, hW5⟩ : ∃ W5, W5 = w.alloc (.cells #[] 3) := ⟨_, rfl⟩
  rw [← hW5]
  have B5 := hide (show Below w.heap.size w W5 from by rw [hW5]; exact (Below.refl _ _).alloc (Nat.le_refl _) _)
  have O5 := hide (show W5.ownsRow w.heap.size 3 1 (.slice (some ⟨w.heap.size, 0, none⟩) 0 0) 0 [] from by rw [hW5]; exact own_emptyM w _ _)
  clear hW5
  go_wp2
  go_loopw [9, 3] (fun kv ou wr => ∃ (i M : Nat) (oa : Option Addr) (oc : Nat), M = (someM (L.take i)).length ∧ i ≤ L.length ∧ kv = .int .i64 (i : Int) ∧ ou = .slice oa M oc ∧ wr.ownsRow w.heap.size 3 1 ou M ((someM (L.take i)).map (Value.int .i64)) ∧ Below w.heap.size w wr) (fun kv _ _ => L.length - (intOf kv).toNat)
  case atStart => exact ⟨0, 0, _, _, rfl, Nat.zero_le _, rfl, rfl, O5.out, B5.out⟩
  case round =>
    obtain ⟨i, M, oa, oc, hM, hi1, rfl, rfl, ho, hb⟩ := hrel
    clear O5 B5
    have hM2 : M ≤ i := by rw [hM]; refine Nat.le_trans (some_len _) ?_; rw [List.length_take]; omega
    have HI := hide (And.intro ho (And.intro hM hb))
    clear ho hM hb
    by_cases hi2 : i < L.length
    · obtain ⟨b, off, cp, e, _, _, _, hcell⟩ := (HR.out.below HI.out.2.2).partsC (by omega)
      injection e with e1 e2 e3
      subst e1 e3
      have cx := hcell i hi2
      obtain ⟨x, hx⟩ : ∃ x, x = L.getD i 0 := ⟨_, rfl⟩
      rw [← hx] at cx
      have HX := hide hx
      have hiI : (i : Int) < (L.length : Int) := by omega
      clear hcell hx e2
      by_cases hx0 : x = 0
      · have hx1 : (x != 0) = false := by simp [hx0]
        go_wp2
        go_roundw
        case rel => exact ⟨i + 1, M, oa, oc, by rw [some_snoc L i hi2, ← HX.out, if_pos hx0, List.append_nil]; exact HI.out.2.1, by omega, by go_num, rfl, by rw [some_snoc L i hi2, ← HX.out, if_pos hx0, List.append_nil]; exact HI.out.1, HI.out.2.2⟩
        case measure => simp [intOf]; omega
      · have hx1 : (x != 0) = true := by simp [hx0]
        have HBs := hide HI.out.2.2.size
        go_wp2_with (first
          | (at_builtin; refine wpList_append_rdI _ rfl (.tmp 15) (.tmp 17) 38 rfl w.heap.size 3 i0 Tryd.underlying38 HT.out.1 HT.out.2.1 HT.out.2.2.1 HT.out.2.2.2 (.slice oa M oc) M _ rfl (HI.out.1.alloc _) _ [x] rfl (rd_oneI _ _) (by simp; omega) (by have := HBs.out; simp; omega) ?_; intro va8 vc8 m8 w8 e8 o8 b8; have H8 := hide (And.intro o8 b8); simp only [List.length_cons, List.length_nil] at e8; have E8 := hide e8; clear o8 b8 e8))
        go_roundw
        case rel => exact ⟨i + 1, m8, va8, vc8, by rw [some_snoc L i hi2, ← HX.out, if_neg hx0, List.length_append]; have := HI.out.2.1; have := E8.out; simp; omega, by omega, by go_num, rfl, by rw [some_snoc L i hi2, ← HX.out, if_neg hx0]; exact H8.out.1, (HI.out.2.2.alloc (HBs.out) _).trans H8.out.2⟩
        case measure => simp [intOf]; omega
    · have hi3 : i = L.length := by omega
      subst hi3
      clear hi2
      go_wp2
      go_ret
      have e := HI.out.2.1
      have o := HI.out.1
      rw [List.take_length] at e o
      refine ⟨_, rfl, ?_, HI.out.2.2⟩
      rw [← e]
      exact o
end Go.Proofs.YtlegmaadcemgnaaDoor

namespace Go.Proofs.YtlegmaadcemgnaaDoor
set_option linter.unusedVariables false
set_option linter.unusedSimpArgs false
open Go.RowKit

open Classical in
/-- The model's answer of TreeBlocks. -/
noncomputable def mbB (zs : List Int) (s : Int) (ds : List Int) (p q : Int) : List Int := if faultT zs s ds p q = 0 ∧ apartP ((s.toNat + 511) / 512) (zs.length / 512) (wrdP zs) (fun i => ds.getD i 0) p q then someM (allM ((s.toNat + 511) / 512) (wrdP zs) (fun i => ds.getD i 0) p q) else []
theorem tbB_same {zs : List Int} {s : Int} {ds : List Int} {p q : Int} (hd : ds.length = 12) : tbB zs s ds p q = mbB zs s ds p q := by
  unfold tbB mbB
  rw [fault_ok]
  cases hok : okR zs s ds p q with
  | false => simp
  | true =>
    have hr : rightR s ds p q = true := by unfold okR at hok; rw [Bool.and_eq_true] at hok; exact hok.2
    rcases ZR_two hd hok with ⟨h1, h2⟩ | ⟨h1, h2⟩
    · rw [if_pos ⟨rfl, by rw [h2]⟩, if_pos ⟨by simp, h1⟩, h2, ← listR_nums (right_rootP hd hr)]
      unfold numX upX
      rw [List.map_map]
      rfl
    · rw [if_neg (by rw [h2]; simp), if_neg (fun h => h1 h.2)]
/-- The second part of the list, up to k. -/
def secL (L : List Int) (f : Nat → Int) (k : Nat) : List Int := (List.range k).flatMap (fun j => f j :: cutM L (140 + 128 * j) (268 + 128 * j))
theorem secL_succ (L : List Int) (f : Nat → Int) (k : Nat) : secL L f (k + 1) = secL L f k ++ [f k] ++ cutM L (140 + 128 * k) (268 + 128 * k) := by
  unfold secL
  rw [List.range_succ, List.flatMap_append]
  simp
theorem secL_len (L : List Int) (f : Nat → Int) : ∀ k, (secL L f k).length ≤ k * 129
  | 0 => by simp [secL]
  | k + 1 => by
    rw [secL_succ]
    simp only [List.length_append, List.length_cons, List.length_nil]
    have := secL_len L f k
    have := cutM_len L (140 + 128 * k) (268 + 128 * k)
    omega
set_option maxRecDepth 100000 in
set_option maxHeartbeats 2000000 in
theorem specTB_any (img : Value) (zs : List Int) (s : Int) (ds : List Int) (p q : Int) (w : World) (h : Rd .u8 w img zs) (h1 : zs.length ≤ 1048576) (hbd : ∀ z ∈ zs, 0 ≤ z ∧ z < 256) (hd : ds.length = 12) :
    Calls Tryd.prog 20 #[img, .agg (cellsI (rootI s ds p q))] w fun e w' => ∃ v, e = .returned (.tuple #[v, .int .i64 (mrC zs s ds p q)]) ∧ w'.ownsRow w.heap.size 3 1 v (mbB zs s ds p q).length ((mbB zs s ds p q).map (Value.int .i64)) ∧ Below w.heap.size w w' := by
  obtain ⟨i0, hi, hz0, hz1, hz2⟩ := info_parts infoI64
  have HT := hide (And.intro hi (And.intro hz0 (And.intro hz1 hz2)))
  clear hi hz0 hz1 hz2
  have HR := hide (And.intro h (And.intro hbd hd))
  have HZ := hide (show (cellsI (rootI s ds p q)).size = 15 from by rw [cellsI_size]; exact rootI_len s ds p q hd)
  obtain ⟨sa, sc, rfl⟩ := rd_shapeT h
  clear h hbd hd
  have HB0 := hide (show Below w.heap.size w (w.alloc (.cells (cellsI (rootI s ds p q)) 34)) from (Below.refl _ _).alloc (Nat.le_refl _) _)
  have K0 := hide (Blk.new w (cellsI (rootI s ds p q)) 34)
  generalize hW0 : w.alloc (.cells (cellsI (rootI s ds p q)) 34) = W0 at HB0 K0
  have HW0 := hide hW0
  clear hW0
  rcases fault_two zs s ds p q with hf | hf
  · obtain ⟨hs0, hs1⟩ := fault_right hf
    obtain ⟨sz, rfl⟩ : ∃ sz : Nat, s = (sz : Int) := ⟨s.toNat, by omega⟩
    have HF := hide hf
    clear hf hs0
    obtain ⟨cnt, hcnt⟩ : ∃ cnt, cnt = (sz + 511) / 512 := ⟨_, rfl⟩
    have HCn := hide hcnt
    have hcn : cnt ≤ 512 := by omega
    clear hcnt
    go_enter Tryd.func20, Tryd.ntmps20
    go_upto_region 1 with fail
    rw [HW0.out]
    go_upto_region 4 with (first
      | (refine wpList_load_row rfl 34 _ rfl w.heap.size rfl 34 (cellsI (rootI (sz : Int) ds p q)) (0, 0) _ K0.out Tryd.underlying34 rfl (by rw [HZ.out]; exact info15) ?_)
      | (go_at_call 33; refine (fault3_any _ zs (sz : Int) ds p q _ (HR.out.1.below HB0.out) h1 HR.out.2.2).mono ?_; rintro e w2 ⟨rfl, b2⟩; rw [HF.out]; have H2 := hide b2; have K2 := hide (K0.out.below b2 K0.out.lt); have BW2 := hide (HB0.out.trans (b2.mono HB0.out.size)); clear b2))
    go_wp2_with (first
      | (refine wpList_load_row rfl 34 _ rfl w.heap.size rfl 34 (cellsI (rootI (sz : Int) ds p q)) (0, 0) _ K2.out Tryd.underlying34 rfl (by rw [HZ.out]; exact info15) ?_)
      | (go_at_call 34; fail))
    refine (apart_any _ zs sz ds p q _ cnt (HR.out.1.below BW2.out) h1 HR.out.2.1 HR.out.2.2 (by omega) HCn.out).mono ?_
    rintro e w3 ⟨(⟨hap, dv, iv, ov, sv, wv, rfl, hone, o3, o3s, _⟩ | ⟨hnap, rfl⟩), b3⟩
    · have BW3 := hide (BW2.out.trans (b3.mono BW2.out.size))
      obtain ⟨da, dc, rfl⟩ := own_shapeT o3
      obtain ⟨sa2, sc2, rfl⟩ := own_shapeT o3s
      have O3 := hide (And.intro (Rd.own (k := .i64) o3) (Rd.own (k := .i64) o3s))
      have HAp := hide hap
      have HOne := hide hone
      clear hap o3 o3s b3 hone
      obtain ⟨T, hT⟩ : ∃ T, T = treeC (.slice da cnt dc) p q iv ov (.slice sa2 (secN cnt) sc2) wv true := ⟨_, rfl⟩
      have HT0 := hide (show T[0]? = some (.slice da cnt dc) ∧ T[1]? = some (.int .i64 p) ∧ T[2]? = some (.int .i64 q) ∧ T[5]? = some (.slice sa2 (secN cnt) sc2) ∧ T[7]? = some (.bool true) ∧ T.size = 8 from by rw [hT]; exact ⟨rfl, rfl, rfl, rfl, rfl, rfl⟩)
      rw [← hT] at HOne ⊢
      clear hT
      go_upto_region 5 with (first
        | (refine wpList_store_row rfl 80 _ _ rfl w3.heap.size T rfl rfl 80 _ (Blk.new w3 _ _) (by rw [HT0.out.2.2.2.2.2]; exact infoTr8) (by rw [HT0.out.2.2.2.2.2]; rfl) HOne.out ?_))
      generalize hW4 : World.setRow _ w3.heap.size T = W4
      have K4 := hide (show Blk W4 w3.heap.size T 80 from by rw [← hW4]; exact (Blk.new w3 _ _).row _)
      have B4 := hide (show Below w3.heap.size w3 W4 from by rw [← hW4]; exact below_setRow ((Below.refl _ _).alloc (Nat.le_refl _) _) (Nat.le_refl _) _)
      clear hW4
      obtain ⟨N, hN⟩ : ∃ N, N = secN cnt := ⟨_, rfl⟩
      have hN2 : N ≤ 128 := by rw [hN]; unfold secN; omega
      obtain ⟨L, hL⟩ : ∃ L, L = (List.range cnt).map (datP (wrdP zs) (fun i => ds.getD i 0) p q) := ⟨_, rfl⟩
      obtain ⟨f, hf⟩ : ∃ f, f = hwP (wrdP zs) q := ⟨_, rfl⟩
      have hLl : L.length = cnt := by rw [hL]; simp
      have HAll := hide (show allM cnt (wrdP zs) (fun i => ds.getD i 0) p q = cutM L 0 12 ++ [p] ++ cutM L 12 140 ++ [q] ++ secL L f N from by rw [hL, hf, hN]; rfl)
      have RD := hide (show Rd .i64 W4 (.slice da cnt dc) L ∧ Rd .i64 W4 (.slice sa2 N sc2) ((List.range N).map f) from by rw [hL, hN, hf]; exact ⟨O3.out.1.below B4.out, O3.out.2.below B4.out⟩)
      have BW4 := hide (BW3.out.trans (B4.out.mono BW3.out.size))
      have HC4 := hide (show ∀ W', Below W4.heap.size W4 W' → W'.cell? ⟨w3.heap.size, 0, none⟩ = some (.slice da cnt dc) ∧ W'.cell? ⟨w3.heap.size, 1, none⟩ = some (.int .i64 p) ∧ W'.cell? ⟨w3.heap.size, 2, none⟩ = some (.int .i64 q) ∧ W'.cell? ⟨w3.heap.size, 5, none⟩ = some (.slice sa2 N sc2) from fun W' hb => by
        have k := K4.out.below hb K4.out.lt
        rw [hN]
        exact ⟨(k.cell 0).trans HT0.out.1, (k.cell 1).trans HT0.out.2.1, (k.cell 2).trans HT0.out.2.2.1, (k.cell 5).trans HT0.out.2.2.2.1⟩)
      have c7 := (K4.out.cell 7).trans HT0.out.2.2.2.2.1
      have hcd : cnt ≤ dc ∧ N ≤ sc2 := ⟨(rd_capI RD.out.1).2.1, (rd_capI RD.out.2).2.1⟩
      clear hN hL hf HT0 HOne
      have hc5 := HC4.out (W4.alloc (.cells #[] 3)) ((Below.refl _ _).alloc (Nat.le_refl _) _)
      have c5 := hc5.1
      clear hc5
      have B5 := hide (show Below W4.heap.size W4 (W4.alloc (.cells #[] 3)) from (Below.refl _ _).alloc (Nat.le_refl _) _)
      have hl1 := cutM_len L 0 12
      have hl2 := cutM_len L 12 140
      go_upto_region 8 with (first
        | (go_at_call 39; refine (show Calls Tryd.prog 39 #[_, .int .i64 0, .int .i64 12] _ _ from cut_any _ L 0 12 _ (RD.out.1.below B5.out) (by omega) (by omega) (by omega)).mono ?_; rintro e wc1 ⟨ca1, cn1, cc1, rfl, hr1, hw1⟩; subst hw1; have R1 := hide hr1; clear hr1)
        | (at_builtin; refine wpList_append_rdI _ rfl (.tmp 23) (.tmp 26) 38 rfl W4.heap.size 3 i0 Tryd.underlying38 HT.out.1 HT.out.2.1 HT.out.2.2.1 HT.out.2.2.2 _ _ [] rfl (own_emptyM W4 _ _) _ (cutM L 0 12) rfl R1.out (by omega) (by simp) ?_; intro a1 c1 m1 v1 e1 o1 b1; have H1 := hide (And.intro o1 (And.intro b1 e1)); clear o1 b1 e1))
      clear c5 c7 R1
      have G1 := hide (show Below W4.heap.size W4 v1 from B5.out.trans H1.out.2.1)
      have hm1 : m1 ≤ 12 := by have := H1.out.2.2; omega
      have hg1 := G1.out.size
      have c81 := (HC4.out v1 G1.out).2.1
      go_upto_region 9 with (first
        | (at_builtin; refine wpList_append_rdI _ rfl (.tmp 28) (.tmp 31) 38 rfl W4.heap.size 3 i0 Tryd.underlying38 HT.out.1 HT.out.2.1 HT.out.2.2.1 HT.out.2.2.2 _ _ _ rfl (H1.out.1.alloc _) _ [p] rfl (rd_oneI _ _) (by simp; omega) (by simp; omega) ?_; intro a2 c2 m2 v2 e2 o2 b2; have H2 := hide (And.intro o2 (And.intro b2 e2)); clear o2 b2 e2))
      clear c81
      have G2 := hide (show Below W4.heap.size W4 v2 from (G1.out.alloc hg1 _).trans H2.out.2.1)
      have hm2 : m2 ≤ 13 := by have := H2.out.2.2; simp at this; omega
      have hg2 := G2.out.size
      have c92 := (HC4.out v2 G2.out).1
      go_upto_region 10 with (first
        | (go_at_call 39; refine (show Calls Tryd.prog 39 #[_, .int .i64 12, .int .i64 140] _ _ from cut_any _ L 12 140 _ (RD.out.1.below G2.out) (by omega) (by omega) (by omega)).mono ?_; rintro e wc3 ⟨ca3, cn3, cc3, rfl, hr3, hw3⟩; subst hw3; have R3 := hide hr3; clear hr3)
        | (at_builtin; refine wpList_append_rdI _ rfl (.tmp 33) (.tmp 36) 38 rfl W4.heap.size 3 i0 Tryd.underlying38 HT.out.1 HT.out.2.1 HT.out.2.2.1 HT.out.2.2.2 _ _ _ rfl H2.out.1 _ (cutM L 12 140) rfl R3.out (by omega) hg2 ?_; intro a3 c3 m3 v3 e3 o3 b3; have H3 := hide (And.intro o3 (And.intro b3 e3)); clear o3 b3 e3))
      clear c92 R3
      have G3 := hide (show Below W4.heap.size W4 v3 from G2.out.trans H3.out.2.1)
      have hm3 : m3 ≤ 141 := by have := H3.out.2.2; omega
      have hg3 := G3.out.size
      have c103 := (HC4.out v3 G3.out).2.2.1
      go_upto_region 11 with (first
        | (at_builtin; refine wpList_append_rdI _ rfl (.tmp 38) (.tmp 41) 38 rfl W4.heap.size 3 i0 Tryd.underlying38 HT.out.1 HT.out.2.1 HT.out.2.2.1 HT.out.2.2.2 _ _ _ rfl (H3.out.1.alloc _) _ [q] rfl (rd_oneI _ _) (by simp; omega) (by simp; omega) ?_; intro a4 c4 m4 v4 e4 o4 b4; have H4 := hide (And.intro o4 (And.intro b4 e4)); clear o4 b4 e4))
      clear c103
      have G4 := hide (show Below W4.heap.size W4 v4 from (G3.out.alloc hg3 _).trans H4.out.2.1)
      have hm4 : m4 ≤ 142 := by have := H4.out.2.2; simp at this; omega
      have hg4 := G4.out.size
      have c114 := (HC4.out v4 G4.out).2.2.2
      obtain ⟨X, hX⟩ : ∃ X, X = [] ++ cutM L 0 12 ++ [p] ++ cutM L 12 140 ++ [q] := ⟨_, rfl⟩
      have O4 := hide (show v4.ownsRow W4.heap.size 3 1 (.slice a4 m4 c4) m4 (X.map (Value.int .i64)) from by rw [hX]; exact H4.out.1)
      have HX := hide (show allM cnt (wrdP zs) (fun i => ds.getD i 0) p q = X ++ secL L f N from by rw [HAll.out, hX]; simp)
      clear hX H1 H2 H3 H4 G1 G2 G3 hm1 hm2 hm3 hg1 hg2 hg3 hl1 hl2 HAll
      go_wp2
      go_loopw [46, 8] (fun kv ou wr => ∃ (k M : Nat) (oa : Option Addr) (oc : Nat), M ≤ 142 + 129 * k ∧ k ≤ N ∧ kv = .int .i64 (k : Int) ∧ ou = .slice oa M oc ∧ wr.ownsRow W4.heap.size 3 1 ou M ((X ++ secL L f k).map (Value.int .i64)) ∧ Below W4.heap.size W4 wr) (fun kv _ _ => N - (intOf kv).toNat)
      case atStart => exact ⟨0, m4, _, _, by omega, Nat.zero_le _, rfl, rfl, by rw [show secL L f 0 = [] from rfl, List.append_nil]; exact O4.out, G4.out⟩
      case round =>
        obtain ⟨k, M, oa, oc, hM, hk1, rfl, rfl, ho, hb⟩ := hrel
        clear O4 G4 c114
        have HI := hide (And.intro ho hb)
        clear ho hb
        have hb4 := HI.out.2.size
        by_cases hk2 : k < N
        · obtain ⟨b, off, cp, e, _, _, _, hcell⟩ := (RD.out.2.below HI.out.2).partsC (by simp; omega)
          injection e with e1 e2 e3
          subst e1 e3
          have cx := hcell k (by simp; omega)
          rw [show ((List.range N).map f).getD k 0 = f k by simp [List.getD, hk2]] at cx
          obtain ⟨x, hx⟩ : ∃ x, x = f k := ⟨_, rfl⟩
          rw [← hx] at cx
          have HX2 := hide hx
          have hkI : (k : Int) < (N : Int) := by omega
          obtain ⟨mm, hmm⟩ : ∃ mm, mm = 128 * k := ⟨_, rfl⟩
          obtain ⟨lo, hlo⟩ : ∃ lo, lo = 140 + 128 * k := ⟨_, rfl⟩
          obtain ⟨hh, hhh⟩ : ∃ hh, hh = 268 + 128 * k := ⟨_, rfl⟩
          have i1 : (128 : Int) * (k : Int) = (mm : Int) := by omega
          have i2 : (140 : Int) + (mm : Int) = (lo : Int) := by omega
          have i3 : (268 : Int) + (mm : Int) = (hh : Int) := by omega
          have hb1 : mm ≤ 16384 := by omega
          have hb2 : lo ≤ 16524 := by omega
          have hb3 : hh ≤ 16652 := by omega
          have hlh : lo ≤ hh := by omega
          have HLo := hide (And.intro hlo hhh)
          have hl3 := cutM_len L lo hh
          have hl4 : hh - lo = 128 := by omega
          rw [hl4] at hl3
          clear hcell hx e2 hmm hlo hhh hl4
          go_upto_region 15 with (first
            | (at_builtin; refine wpList_append_rdI _ rfl (.tmp 51) (.tmp 53) 38 rfl W4.heap.size 3 i0 Tryd.underlying38 HT.out.1 HT.out.2.1 HT.out.2.2.1 HT.out.2.2.2 _ _ _ rfl (HI.out.1.alloc _) _ [x] rfl (rd_oneI _ _) (by simp; omega) (by simp; omega) ?_; intro a6 c6 m6 v6 e6 o6 b6; have H6 := hide (And.intro o6 (And.intro b6 e6)); clear o6 b6 e6))
          have G6 := hide (show Below W4.heap.size W4 v6 from (HI.out.2.alloc hb4 _).trans H6.out.2.1)
          have c156 := (HC4.out v6 G6.out).1
          have hm6 : m6 ≤ M + 1 := by have := H6.out.2.2; simp at this; omega
          go_wp2_with (first
            | (go_at_call 39; refine (show Calls Tryd.prog 39 #[_, .int .i64 (lo : Int), .int .i64 (hh : Int)] _ _ from cut_any _ L lo hh _ (RD.out.1.below G6.out) (by omega) (by omega) (by omega)).mono ?_; rintro e wc7 ⟨ca7, cn7, cc7, rfl, hr7, hw7⟩; subst hw7; have R7 := hide hr7; clear hr7)
            | (at_builtin; refine wpList_append_rdI _ rfl (.tmp 55) (.tmp 64) 38 rfl W4.heap.size 3 i0 Tryd.underlying38 HT.out.1 HT.out.2.1 HT.out.2.2.1 HT.out.2.2.2 _ _ _ rfl H6.out.1 _ (cutM L lo hh) rfl R7.out (by omega) G6.out.size ?_; intro a7 c7 m7 v7 e7 o7 b7; have H7 := hide (And.intro o7 (And.intro b7 e7)); clear o7 b7 e7))
          have G7 := hide (show Below W4.heap.size W4 v7 from G6.out.trans H7.out.2.1)
          have hm7 : m7 ≤ 142 + 129 * (k + 1) := by have := H7.out.2.2; omega
          go_roundw
          case rel => exact ⟨k + 1, m7, a7, c7, hm7, by omega, by go_num, rfl, by rw [secL_succ, ← HX2.out, ← HLo.out.1, ← HLo.out.2, ← List.append_assoc, ← List.append_assoc]; exact H7.out.1, G7.out⟩
          case measure => simp [intOf]; omega
        · have hk3 : k = N := by omega
          subst hk3
          clear hk2
          have hXl : (X ++ secL L f k).length ≤ 100000 := by
            have := HI.out.1.1
            rw [List.length_map] at this
            omega
          go_wp2_with (go_at_call 40; refine (some_any _ (X ++ secL L f k) _ (Rd.own HI.out.1) hXl).mono ?_; rintro e w9 ⟨v9, rfl, o9, b9⟩; have H9 := hide (And.intro o9 b9); clear o9 b9)
          go_ret2
          have hap : apartP (((sz : Int).toNat + 511) / 512) (zs.length / 512) (wrdP zs) (fun i => ds.getD i 0) p q := by rw [Int.toNat_natCast, ← HCn.out]; exact HAp.out
          have e1 : mbB zs (sz : Int) ds p q = someM (X ++ secL L f k) := by unfold mbB; rw [if_pos ⟨HF.out, hap⟩, Int.toNat_natCast, ← HCn.out, HX.out]
          have hbw := BW4.out.trans (HI.out.2.mono BW4.out.size)
          refine ⟨_, by unfold mrC; rw [if_neg (by rw [HF.out]; decide), if_pos hap]; rfl, ?_, hbw.trans (H9.out.2.mono hbw.size)⟩
          rw [e1]
          exact own_mono H9.out.1 hbw.size
    · have HNap := hide hnap
      have BW3 := hide (BW2.out.trans (b3.mono BW2.out.size))
      clear hnap b3
      go_upto_region 5 with (first
        | (refine wpList_store_row rfl 80 _ _ rfl w3.heap.size (treeC nilV 0 0 nilV nilV nilV nilV false) rfl rfl 80 _ (Blk.new w3 _ _) infoTr8 rfl (by simp [Value.oneCell']) ?_))
      generalize hW4 : World.setRow _ w3.heap.size (treeC nilV 0 0 nilV nilV nilV nilV false) = W4
      have K4 := hide (show Blk W4 w3.heap.size (treeC nilV 0 0 nilV nilV nilV nilV false) 80 from by rw [← hW4]; exact (Blk.new w3 _ _).row _)
      have B4 := hide (show Below w3.heap.size w3 W4 from by rw [← hW4]; exact below_setRow ((Below.refl _ _).alloc (Nat.le_refl _) _) (Nat.le_refl _) _)
      clear hW4
      have c7 := (K4.out.cell 7).trans (show _ = some (.bool false) from rfl)
      go_wp2
      go_ret2
      have hnp : ¬ apartP (((sz : Int).toNat + 511) / 512) (zs.length / 512) (wrdP zs) (fun i => ds.getD i 0) p q := by rw [Int.toNat_natCast, ← HCn.out]; exact HNap.out
      exact ⟨_, by unfold mrC; rw [if_neg (by rw [HF.out]; decide), if_neg hnp]; rfl, by unfold mbB; rw [if_neg (fun h => hnp h.2)]; exact World.ownsRow_nil _ _ _ _, BW3.out.trans (B4.out.mono BW3.out.size)⟩
  · have HF := hide hf
    clear hf
    go_enter Tryd.func20, Tryd.ntmps20
    go_upto_region 1 with fail
    rw [HW0.out]
    go_wp2_with (first
      | (refine wpList_load_row rfl 34 _ rfl w.heap.size rfl 34 (cellsI (rootI s ds p q)) (0, 0) _ K0.out Tryd.underlying34 rfl (by rw [HZ.out]; exact info15) ?_)
      | (go_at_call 33; refine (fault3_any _ zs s ds p q _ (HR.out.1.below HB0.out) h1 HR.out.2.2).mono ?_; rintro e w2 ⟨rfl, b2⟩; rw [HF.out]; have BW2 := hide (HB0.out.trans (b2.mono HB0.out.size)); clear b2))
    go_ret2
    exact ⟨_, by unfold mrC; rw [if_pos (by rw [HF.out]; decide)]; rfl, by unfold mbB; rw [if_neg (by rw [HF.out]; intro h; cases h.1)]; exact World.ownsRow_nil _ _ _ _, BW2.out⟩
end Go.Proofs.YtlegmaadcemgnaaDoor

namespace Go.Proofs.YtlegmaadcemgnaaDoor
set_option linter.unusedVariables false
set_option linter.unusedSimpArgs false
open Go.RowKit

theorem blkRange {w : World} {b : Nat} {C : Array Value} {t : TypeId} (h : Blk w b C t) : w.rangeAt b 0 C.toList := by
  intro j v hv
  rw [h.cell (0 + j), Nat.zero_add]
  simpa using hv
theorem tbB_len (zs : List Int) (s : Int) (ds : List Int) (p q : Int) : (tbB zs s ds p q).length ≤ 231182 := by
  unfold tbB
  split
  · rw [numX_len]
    unfold upX
    rw [List.length_map]
    exact tops_len
  · simp

set_option maxRecDepth 100000 in
set_option maxHeartbeats 2000000 in
theorem lawTrb (v : Value) (zs : List Int) (s : Int) (ds : List Int) (p q : Int) (w : World) (h : Rd .u8 w v zs) (hbd : ∀ z ∈ zs, 0 ≤ z ∧ z < 256) (hd : ds.length = 12) (hg : ErrT w) :
    Calls Tryd.prog 5 #[v, .agg (cellsI (rootI s ds p q))] w fun e w' => e = .returned (.bool true) ∧ Below w.heap.size w w' := by
  have hm := h.len
  unfold maxLen at hm
  have hsh : ∃ a cap, v = .slice a zs.length cap := by obtain ⟨a, cap, h1, _⟩ := h; exact ⟨a, cap, h1⟩
  obtain ⟨a0, cap0, rfl⟩ := hsh
  have H := hide (And.intro h hg)
  have HD := hide hd
  have HZ := hide (show (cellsI (rootI s ds p q)).size = 15 from by rw [cellsI_size]; exact rootI_len s ds p q hd)
  have B0 := hide (show Below w.heap.size w (w.alloc (.cells (cellsI (rootI s ds p q)) 43)) from (Below.refl _ _).alloc (Nat.le_refl _) _)
  have K0 := hide (Blk.new w (cellsI (rootI s ds p q)) 43)
  clear h hg
  by_cases hbig : (1048576 : Int) < (zs.length : Int)
  · clear hd
    go_enter Tryd.func5, Tryd.ntmps5
    go_wp2
    go_ret
    exact ⟨rfl, B0.out⟩
  have hsm : zs.length ≤ 1048576 := by omega
  clear hbig hm
  have HS := hide (fun (v : Value) (w : World) (hr : Rd .u8 w v zs) => specTB_any v zs s ds p q w hr hsm hbd hd)
  have HI := hide (fun (v : Value) (w : World) (hr : Rd .u8 w v zs) (hg : ErrT w) => implTB_any v zs s ds p q w hr hsm hbd hd hg)
  rw [trC_same hd, tbB_same hd] at HI
  have hR : (mbB zs s ds p q).length ≤ 1048576 := by rw [← tbB_same hd]; exact Nat.le_trans (tbB_len zs s ds p q) (by omega)
  generalize mbB zs s ds p q = R at HS HI hR
  generalize mrC zs s ds p q = c at HS HI
  have hcc : (c != c) = false := by simp
  obtain ⟨Kc, hKc⟩ : ∃ K : Nat, K = 1 + zs.length := ⟨_, rfl⟩
  have hK1b : Kc ≤ 1048577 := by omega
  obtain ⟨M, hM⟩ : ∃ K : Nat, K = 1 + R.length := ⟨_, rfl⟩
  have hMb : M ≤ 1048577 := by omega
  have HK1 := hide hKc
  have HM := hide hM
  clear hKc hM hbd hd
  go_enter Tryd.func5, Tryd.ntmps5
  go_wp2_with fail
  refine wp_region_noPanic ?_
  refine wp_region_held_drew (S := fun w' => Blk w' w.heap.size (cellsI (rootI s ds p q)) 43) (by kernel_rfl) K0.out (fun hH => ?_)
  refine wpAnyH_take (i := 0) (oi := _) (v := .slice a0 zs.length cap0) rfl (by kernel_rfl) (by kernel_rfl) (by kernel_rfl) (fun _ _ _ h => h) (Or.inl ⟨by rfl, fun w' hw' => by go_simp⟩) hH ?_
  try simp only [Act.put, List.getElem_toArray, List.getElem_cons_zero, List.getElem_cons_succ, List.setIfInBounds_toArray, List.set_cons_zero, List.set_cons_succ]
  refine wpAnyH_take (i := 2) (oi := _) (v := .agg (cellsI (rootI s ds p q))) rfl (by kernel_rfl) (by kernel_rfl) (by kernel_rfl) (fun _ _ _ h => h) (yieldsIf_load_mid (by rfl) 43 _ rfl w.heap.size 0 rfl (cellsI (rootI s ds p q)).toList _ (fun w' h => blkRange h) Tryd.underlying43 rfl (by rw [Array.length_toList, HZ.out]; exact infoL15)) hH ?_
  try simp only [Act.put, List.getElem_toArray, List.getElem_cons_zero, List.getElem_cons_succ, List.setIfInBounds_toArray, List.set_cons_zero, List.set_cons_succ]
  refine wpAnyH_ready (rs := [1]) (by kernel_rfl) (by simp) ?_
  refine AllReadyH.cons (o := _) rfl (fun K hK => ?_) AllReadyH.nil
  go_simp
  refine (toByteS_any _ zs _ (H.out.1.below B0.out.drew) (by omega)).mono ?_
  rintro e w1 ⟨t0, rfl, o, b⟩
  have b := ((Below.refl _ _).drew).trans b
  have o := own_mono o (Nat.le_refl (w.alloc (.cells (cellsI (rootI s ds p q)) 43)).heap.size)
  have S1 := hide b.size
  have B1 := hide (B0.out.trans (b.mono B0.out.size))
  have K1 := hide (K0.out.below b K0.out.lt)
  clear K0
  have T0o1 := hide o
  have Lt0 := hide (fun k hk => T0o1.out.lt (v := t0) k hk)
  have Zt0 := hide B0.out.size
  refine hK.out _ _ K1.out (fun hH => ?_)
  clear hK K o b
  try simp only [Act.put, List.getElem_toArray, List.getElem_cons_zero, List.getElem_cons_succ, List.setIfInBounds_toArray, List.set_cons_zero, List.set_cons_succ]
  refine wpAnyH_ready (rs := [3]) (by kernel_rfl) (by simp) ?_
  refine AllReadyH.cons (o := _) rfl (fun K hK => ?_) AllReadyH.nil
  go_simp
  refine (toRoot_any s ds p q _ HD.out).mono ?_
  rintro e w2 ⟨rfl, b⟩
  have T0o2 := hide (own_below T0o1.out b)
  clear T0o1
  have S2 := hide b.size
  have B2 := hide (B1.out.trans (b.mono B1.out.size))
  have K2 := hide (K1.out.below b K1.out.lt)
  clear K1
  refine hK.out _ _ K2.out (fun hH => ?_)
  clear hK K b
  try simp only [Act.put, List.getElem_toArray, List.getElem_cons_zero, List.getElem_cons_succ, List.setIfInBounds_toArray, List.set_cons_zero, List.set_cons_succ]
  refine wpAnyH_ready (rs := [4]) (by kernel_rfl) (by simp) ?_
  refine AllReadyH.cons (o := _) rfl (fun K hK => ?_) AllReadyH.nil
  go_simp
  refine (HS.out t0 _ (Rd.own T0o2.out)).mono ?_
  rintro e w3 ⟨v2, rfl, o, b⟩
  have T0o3 := hide (own_below T0o2.out b)
  clear T0o2
  have S3 := hide b.size
  have B3 := hide (B2.out.trans (b.mono B2.out.size))
  have K3 := hide (K2.out.below b K2.out.lt)
  clear K2
  have V2o3 := hide o
  have Lv2 := hide (fun k hk => V2o3.out.lt (v := v2) k hk)
  have Zv2 := hide B2.out.size
  refine hK.out _ _ K3.out (fun hH => ?_)
  clear hK K o b
  try simp only [Act.put, List.getElem_toArray, List.getElem_cons_zero, List.getElem_cons_succ, List.setIfInBounds_toArray, List.set_cons_zero, List.set_cons_succ]
  refine wpAnyH_take (i := 5) (oi := _) (v := .tuple #[v2, .int .i64 c]) rfl (by kernel_rfl) (by kernel_rfl) (by kernel_rfl) (fun _ _ _ h => h) (Or.inl ⟨by rfl, fun w' hw' => by go_simp⟩) hH ?_
  try simp only [Act.put, List.getElem_toArray, List.getElem_cons_zero, List.getElem_cons_succ, List.setIfInBounds_toArray, List.set_cons_zero, List.set_cons_succ]
  refine wpAnyH_take (i := 6) (oi := _) (v := v2) rfl (by kernel_rfl) (by kernel_rfl) (by kernel_rfl) (fun _ _ _ h => h) (Or.inl ⟨by rfl, fun w' hw' => by go_simp⟩) hH ?_
  try simp only [Act.put, List.getElem_toArray, List.getElem_cons_zero, List.getElem_cons_succ, List.setIfInBounds_toArray, List.set_cons_zero, List.set_cons_succ]
  refine wpAnyH_take (i := 7) (oi := _) (v := .int .i64 c) rfl (by kernel_rfl) (by kernel_rfl) (by kernel_rfl) (fun _ _ _ h => h) (Or.inl ⟨by rfl, fun w' hw' => by go_simp⟩) hH ?_
  try simp only [Act.put, List.getElem_toArray, List.getElem_cons_zero, List.getElem_cons_succ, List.setIfInBounds_toArray, List.set_cons_zero, List.set_cons_succ]
  refine wpAnyH_take (i := 8) (oi := _) (v := v2) rfl (by kernel_rfl) (by kernel_rfl) (by kernel_rfl) (fun _ _ _ h => h) (Or.inl ⟨by rfl, fun w' hw' => by go_simp⟩) hH ?_
  try simp only [Act.put, List.getElem_toArray, List.getElem_cons_zero, List.getElem_cons_succ, List.setIfInBounds_toArray, List.set_cons_zero, List.set_cons_succ]
  refine wpAnyH_take (i := 9) (oi := _) (v := .int .i64 c) rfl (by kernel_rfl) (by kernel_rfl) (by kernel_rfl) (fun _ _ _ h => h) (Or.inl ⟨by rfl, fun w' hw' => by go_simp⟩) hH ?_
  try simp only [Act.put, List.getElem_toArray, List.getElem_cons_zero, List.getElem_cons_succ, List.setIfInBounds_toArray, List.set_cons_zero, List.set_cons_succ]
  refine wpAnyH_done (by kernel_rfl) (NoPanic.normal ?_) _
  clear hH
  clear T0o3 Lt0 Zt0
  go_wp2_with fail
  refine (toByteS_any _ zs _ (H.out.1.below B3.out) (by omega)).mono ?_
  rintro e w4 ⟨x0, rfl, o, b⟩
  have V2o4 := hide (own_below V2o3.out b)
  clear V2o3
  have S4 := hide b.size
  have B4 := hide (B3.out.trans (b.mono B3.out.size))
  have K4 := hide (K3.out.below b K3.out.lt)
  clear K3
  have X0o4 := hide o
  have Lx0 := hide (fun k hk => X0o4.out.lt (v := x0) k hk)
  have Zx0 := hide B3.out.size
  clear o b
  go_wp2_with (first | (refine wpList_load_row rfl 43 _ rfl w.heap.size rfl 43 (cellsI (rootI s ds p q)) (0, 0) _ K4.out Tryd.underlying43 rfl (by rw [HZ.out]; exact infoL15) ?_) | (go_at_call 15; fail))
  refine (toRoot_any s ds p q _ HD.out).mono ?_
  rintro e w5 ⟨rfl, b⟩
  have V2o5 := hide (own_below V2o4.out b)
  clear V2o4
  have X0o5 := hide (own_below X0o4.out b)
  clear X0o4
  have S5 := hide b.size
  have B5 := hide (B4.out.trans (b.mono B4.out.size))
  have K5 := hide (K4.out.below b K4.out.lt)
  clear K4
  clear b
  go_wp2_with fail
  refine (HI.out x0 _ (Rd.own X0o5.out) (H.out.2.below B5.out)).mono ?_
  rintro e w6 ⟨g0, rfl, o, b⟩
  have V2o6 := hide (own_below V2o5.out b)
  clear V2o5
  have X0o6 := hide (own_below X0o5.out b)
  clear X0o5
  have S6 := hide b.size
  have B6 := hide (B5.out.trans (b.mono B5.out.size))
  have K6 := hide (K5.out.below b K5.out.lt)
  clear K5
  have G0o6 := hide o
  have Lg0 := hide (fun k hk => G0o6.out.lt (v := g0) k hk)
  have Zg0 := hide B5.out.size
  clear o b
  go_wp2_with fail
  refine (eqIntS_same g0 v2 R _ (Rd.own G0o6.out) (Rd.own V2o6.out)).mono ?_
  rintro e w7 ⟨rfl, b⟩
  have V2o7 := hide (own_below V2o6.out b)
  clear V2o6
  have X0o7 := hide (own_below X0o6.out b)
  clear X0o6
  have G0o7 := hide (own_below G0o6.out b)
  clear G0o6
  have S7 := hide b.size
  have B7 := hide (B6.out.trans (b.mono B6.out.size))
  have K7 := hide (K6.out.below b K6.out.lt)
  clear K6
  clear b
  go_wp2_with fail
  refine (toByteS_any _ zs _ (H.out.1.below B7.out) (by omega)).mono ?_
  rintro e w8 ⟨t0, rfl, o, b⟩
  have V2o8 := hide (own_below V2o7.out b)
  clear V2o7
  have X0o8 := hide (own_below X0o7.out b)
  clear X0o7
  have G0o8 := hide (own_below G0o7.out b)
  clear G0o7
  have S8 := hide b.size
  have B8 := hide (B7.out.trans (b.mono B7.out.size))
  have K8 := hide (K7.out.below b K7.out.lt)
  clear K7
  have T0o8 := hide o
  have Lt0 := hide (fun k hk => T0o8.out.lt (v := t0) k hk)
  have Zt0 := hide B7.out.size
  clear o b
  go_wp2_with fail
  refine (eqByteS_same x0 t0 zs _ (Rd.own X0o8.out) (Rd.own T0o8.out)).mono ?_
  rintro e w9 ⟨rfl, b⟩
  have V2o9 := hide (own_below V2o8.out b)
  clear V2o8
  have X0o9 := hide (own_below X0o8.out b)
  clear X0o8
  have G0o9 := hide (own_below G0o8.out b)
  clear G0o8
  have T0o9 := hide (own_below T0o8.out b)
  clear T0o8
  have S9 := hide b.size
  have B9 := hide (B8.out.trans (b.mono B8.out.size))
  have K9 := hide (K8.out.below b K8.out.lt)
  clear K8
  clear b
  clear T0o9 Lt0 Zt0
  go_wp2_with fail
  refine (markByteS_any x0 w3.heap.size zs.length 1 _ _ X0o9.out (by omega) (by omega)).mono ?_
  rintro e w10 ⟨he, o, g⟩
  rw [← HK1.out] at he
  subst he
  have V2o10 := hide (V2o9.out.kept g (apart2 Lv2.out Lx0.out (by have := S1.out; have := S2.out; have := S3.out; have := S4.out; have := S5.out; have := S6.out; have := S7.out; have := S8.out; have := S9.out; omega)))
  clear V2o9
  have G0o10 := hide (G0o9.out.kept g (apart2 Lg0.out Lx0.out (by have := S1.out; have := S2.out; have := S3.out; have := S4.out; have := S5.out; have := S6.out; have := S7.out; have := S8.out; have := S9.out; omega)))
  clear G0o9
  have B10 := hide (B9.out.grown g B9.out.size (fun k hk => Nat.le_trans Zx0.out (X0o9.out.lt k hk).1))
  have K10 := hide (show Blk w10 w.heap.size (cellsI (rootI s ds p q)) 43 from (g.block _ K9.out.lt (fun e => blk_off X0o9.out K9.out (by decide) e.symm)).trans K9.out)
  clear K9
  have S10 := hide g.size
  have X0o10 := hide o
  clear o g X0o9
  clear X0o10 Lx0 Zx0
  go_wp2_with fail
  refine (eqIntS_same g0 v2 R _ (Rd.own G0o10.out) (Rd.own V2o10.out)).mono ?_
  rintro e w11 ⟨rfl, b⟩
  have V2o11 := hide (own_below V2o10.out b)
  clear V2o10
  have G0o11 := hide (own_below G0o10.out b)
  clear G0o10
  have S11 := hide b.size
  have B11 := hide (B10.out.trans (b.mono B10.out.size))
  have K11 := hide (K10.out.below b K10.out.lt)
  clear K10
  clear b
  go_wp2_with fail
  refine (markIntS_any g0 w5.heap.size R.length 1 _ _ G0o11.out (by omega) (by omega)).mono ?_
  rintro e w12 ⟨he, o, g⟩
  rw [← HM.out] at he
  subst he
  have V2o12 := hide (V2o11.out.kept g (apart2 Lv2.out Lg0.out (by have := S1.out; have := S2.out; have := S3.out; have := S4.out; have := S5.out; have := S6.out; have := S7.out; have := S8.out; have := S9.out; have := S10.out; have := S11.out; omega)))
  clear V2o11
  have B12 := hide (B11.out.grown g B11.out.size (fun k hk => Nat.le_trans Zg0.out (G0o11.out.lt k hk).1))
  have K12 := hide (show Blk w12 w.heap.size (cellsI (rootI s ds p q)) 43 from (g.block _ K11.out.lt (fun e => blk_off G0o11.out K11.out (by decide) e.symm)).trans K11.out)
  clear K11
  have S12 := hide g.size
  have G0o12 := hide o
  clear o g G0o11
  go_wp2_with fail
  refine (heldIntS_any g0 R.length 1 _ (Rd.own G0o12.out) (by omega) (by omega)).mono ?_
  rintro e wq ⟨he, hwq⟩
  rw [← HM.out] at he
  subst he
  rw [hwq]
  clear hwq wq
  go_wp2_with fail
  refine wp_region_noPanic ?_
  refine wp_region_held_drew (S := fun w' => Blk w' w.heap.size (cellsI (rootI s ds p q)) 43) (by kernel_rfl) K12.out (fun hH => ?_)
  refine wpAnyH_take (i := 0) (oi := _) (v := .slice a0 zs.length cap0) rfl (by kernel_rfl) (by kernel_rfl) (by kernel_rfl) (fun _ _ _ h => h) (Or.inl ⟨by rfl, fun w' hw' => by go_simp⟩) hH ?_
  try simp only [Act.put, List.getElem_toArray, List.getElem_cons_zero, List.getElem_cons_succ, List.setIfInBounds_toArray, List.set_cons_zero, List.set_cons_succ]
  refine wpAnyH_take (i := 2) (oi := _) (v := .agg (cellsI (rootI s ds p q))) rfl (by kernel_rfl) (by kernel_rfl) (by kernel_rfl) (fun _ _ _ h => h) (yieldsIf_load_mid (by rfl) 43 _ rfl w.heap.size 0 rfl (cellsI (rootI s ds p q)).toList _ (fun w' h => blkRange h) Tryd.underlying43 rfl (by rw [Array.length_toList, HZ.out]; exact infoL15)) hH ?_
  try simp only [Act.put, List.getElem_toArray, List.getElem_cons_zero, List.getElem_cons_succ, List.setIfInBounds_toArray, List.set_cons_zero, List.set_cons_succ]
  refine wpAnyH_ready (rs := [1]) (by kernel_rfl) (by simp) ?_
  refine AllReadyH.cons (o := _) rfl (fun K hK => ?_) AllReadyH.nil
  go_simp
  refine (toByteS_any _ zs _ (H.out.1.below B12.out.drew) (by omega)).mono ?_
  rintro e w13 ⟨t0, rfl, o, b⟩
  have b := ((Below.refl _ _).drew).trans b
  have o := own_mono o (Nat.le_refl w12.heap.size)
  have V2o13 := hide (own_below V2o12.out b)
  clear V2o12
  have G0o13 := hide (own_below G0o12.out b)
  clear G0o12
  have S13 := hide b.size
  have B13 := hide (B12.out.trans (b.mono B12.out.size))
  have K13 := hide (K12.out.below b K12.out.lt)
  clear K12
  have T0o13 := hide o
  have Lt0 := hide (fun k hk => T0o13.out.lt (v := t0) k hk)
  have Zt0 := hide B12.out.size
  refine hK.out _ _ K13.out (fun hH => ?_)
  clear hK K o b
  try simp only [Act.put, List.getElem_toArray, List.getElem_cons_zero, List.getElem_cons_succ, List.setIfInBounds_toArray, List.set_cons_zero, List.set_cons_succ]
  refine wpAnyH_ready (rs := [3]) (by kernel_rfl) (by simp) ?_
  refine AllReadyH.cons (o := _) rfl (fun K hK => ?_) AllReadyH.nil
  go_simp
  refine (toRoot_any s ds p q _ HD.out).mono ?_
  rintro e w14 ⟨rfl, b⟩
  have V2o14 := hide (own_below V2o13.out b)
  clear V2o13
  have G0o14 := hide (own_below G0o13.out b)
  clear G0o13
  have T0o14 := hide (own_below T0o13.out b)
  clear T0o13
  have S14 := hide b.size
  have B14 := hide (B13.out.trans (b.mono B13.out.size))
  have K14 := hide (K13.out.below b K13.out.lt)
  clear K13
  refine hK.out _ _ K14.out (fun hH => ?_)
  clear hK K b
  try simp only [Act.put, List.getElem_toArray, List.getElem_cons_zero, List.getElem_cons_succ, List.setIfInBounds_toArray, List.set_cons_zero, List.set_cons_succ]
  refine wpAnyH_ready (rs := [4]) (by kernel_rfl) (by simp) ?_
  refine AllReadyH.cons (o := _) rfl (fun K hK => ?_) AllReadyH.nil
  go_simp
  refine (HI.out t0 _ (Rd.own T0o14.out) (H.out.2.below B14.out)).mono ?_
  rintro e w15 ⟨h0, rfl, o, b⟩
  have V2o15 := hide (own_below V2o14.out b)
  clear V2o14
  have G0o15 := hide (own_below G0o14.out b)
  clear G0o14
  have T0o15 := hide (own_below T0o14.out b)
  clear T0o14
  have S15 := hide b.size
  have B15 := hide (B14.out.trans (b.mono B14.out.size))
  have K15 := hide (K14.out.below b K14.out.lt)
  clear K14
  have H0o15 := hide o
  have Lh0 := hide (fun k hk => H0o15.out.lt (v := h0) k hk)
  have Zh0 := hide B14.out.size
  refine hK.out _ _ K15.out (fun hH => ?_)
  clear hK K o b
  try simp only [Act.put, List.getElem_toArray, List.getElem_cons_zero, List.getElem_cons_succ, List.setIfInBounds_toArray, List.set_cons_zero, List.set_cons_succ]
  refine wpAnyH_take (i := 5) (oi := _) (v := .tuple #[h0, .int .i64 c]) rfl (by kernel_rfl) (by kernel_rfl) (by kernel_rfl) (fun _ _ _ h => h) (Or.inl ⟨by rfl, fun w' hw' => by go_simp⟩) hH ?_
  try simp only [Act.put, List.getElem_toArray, List.getElem_cons_zero, List.getElem_cons_succ, List.setIfInBounds_toArray, List.set_cons_zero, List.set_cons_succ]
  refine wpAnyH_take (i := 6) (oi := _) (v := h0) rfl (by kernel_rfl) (by kernel_rfl) (by kernel_rfl) (fun _ _ _ h => h) (Or.inl ⟨by rfl, fun w' hw' => by go_simp⟩) hH ?_
  try simp only [Act.put, List.getElem_toArray, List.getElem_cons_zero, List.getElem_cons_succ, List.setIfInBounds_toArray, List.set_cons_zero, List.set_cons_succ]
  refine wpAnyH_take (i := 7) (oi := _) (v := .int .i64 c) rfl (by kernel_rfl) (by kernel_rfl) (by kernel_rfl) (fun _ _ _ h => h) (Or.inl ⟨by rfl, fun w' hw' => by go_simp⟩) hH ?_
  try simp only [Act.put, List.getElem_toArray, List.getElem_cons_zero, List.getElem_cons_succ, List.setIfInBounds_toArray, List.set_cons_zero, List.set_cons_succ]
  refine wpAnyH_take (i := 8) (oi := _) (v := h0) rfl (by kernel_rfl) (by kernel_rfl) (by kernel_rfl) (fun _ _ _ h => h) (Or.inl ⟨by rfl, fun w' hw' => by go_simp⟩) hH ?_
  try simp only [Act.put, List.getElem_toArray, List.getElem_cons_zero, List.getElem_cons_succ, List.setIfInBounds_toArray, List.set_cons_zero, List.set_cons_succ]
  refine wpAnyH_take (i := 9) (oi := _) (v := .int .i64 c) rfl (by kernel_rfl) (by kernel_rfl) (by kernel_rfl) (fun _ _ _ h => h) (Or.inl ⟨by rfl, fun w' hw' => by go_simp⟩) hH ?_
  try simp only [Act.put, List.getElem_toArray, List.getElem_cons_zero, List.getElem_cons_succ, List.setIfInBounds_toArray, List.set_cons_zero, List.set_cons_succ]
  refine wpAnyH_done (by kernel_rfl) (NoPanic.normal ?_) _
  clear hH
  clear T0o15 Lt0 Zt0
  go_wp2_with fail
  refine (eqIntS_same h0 v2 R _ (Rd.own H0o15.out) (Rd.own V2o15.out)).mono ?_
  rintro e w16 ⟨rfl, b⟩
  have V2o16 := hide (own_below V2o15.out b)
  clear V2o15
  have G0o16 := hide (own_below G0o15.out b)
  clear G0o15
  have H0o16 := hide (own_below H0o15.out b)
  clear H0o15
  have S16 := hide b.size
  have B16 := hide (B15.out.trans (b.mono B15.out.size))
  have K16 := hide (K15.out.below b K15.out.lt)
  clear K15
  clear b
  go_wp2_with fail
  refine (heldIntS_any g0 R.length 1 _ (Rd.own G0o16.out) (by omega) (by omega)).mono ?_
  rintro e wq ⟨he, hwq⟩
  rw [← HM.out] at he
  subst he
  rw [hwq]
  clear hwq wq
  go_wp2
  go_ret
  exact ⟨rfl, B16.out⟩
end Go.Proofs.YtlegmaadcemgnaaDoor

namespace Go.Proofs.YtlegmaadcemgnaaDoor
set_option linter.unusedVariables false
set_option linter.unusedSimpArgs false
open Go.ChangeShapes Go.WideShapes Go.ChangeAt Go.RowKit

theorem root_of_list (rs : List Int) (h : rs.length = 15) : ∃ s ds p q, ds.length = 12 ∧ rs = rootI s ds p q := by
  match rs, h with
  | [s, d0, d1, d2, d3, d4, d5, d6, d7, d8, d9, d10, d11, p, q], _ => exact ⟨s, [d0, d1, d2, d3, d4, d5, d6, d7, d8, d9, d10, d11], p, q, rfl, rfl⟩
set_option maxRecDepth 100000 in
/-- A root that came in is fifteen integers. -/
theorem open_root {H : Type} {enc : TypeId × Value → H} {W : World} {r : Reach} {b0 base : Nat} {spare : TypeId → Bool} {held : Bool} {v : Value} {d : DataW H} {pl : List MemPlace} (hv : Value.okWide Tryd.prog W r b0 43 v) (h : DataW.Trod enc Tryd.prog W base spare held 43 v d pl) :
    ∃ s ds p q, ds.length = 12 ∧ v = .agg (cellsI (rootI s ds p q)) := by
  obtain ⟨cs, rfl, hsz⟩ := Go.WideShapes.okWide_struct Tryd.underlying43 hv
  rw [cellsL15] at hsz
  obtain ⟨fuel, hf⟩ := h
  obtain ⟨xs, n, _, _, _, hl, hfld⟩ := DataW.trod_struct Tryd.underlying43 hf
  have hc : (Value.agg cs).cells.toList = cs.toList := rfl
  rw [hc] at hfld
  have h0 := hfld 0 _ rfl
  have h1 := hfld 1 _ rfl
  have h2 := hfld 2 _ rfl
  have h3 := hfld 3 _ rfl
  have hl4 : xs.length = 4 := hl
  rw [List.getElem?_eq_getElem (show 0 < xs.length by omega)] at h0
  rw [List.getElem?_eq_getElem (show 1 < xs.length by omega)] at h1
  rw [List.getElem?_eq_getElem (show 2 < xs.length by omega)] at h2
  rw [List.getElem?_eq_getElem (show 3 < xs.length by omega)] at h3
  obtain ⟨a0, e0, _⟩ := DataW.trod_int Tryd.underlying3 h0
  obtain ⟨a2, e2, _⟩ := DataW.trod_int Tryd.underlying3 h2
  obtain ⟨a3, e3, _⟩ := DataW.trod_int Tryd.underlying3 h3
  obtain ⟨ys, m, _, _, _, hy, hel⟩ := DataW.trod_array Tryd.underlying32 h1
  change (cs.toList.drop 0).take (Tryd.prog.cellsOf 3) = _ at e0
  change (cs.toList.drop 13).take (Tryd.prog.cellsOf 3) = _ at e2
  change (cs.toList.drop 14).take (Tryd.prog.cellsOf 3) = _ at e3
  rw [cells1] at e0 e2 e3
  have f0 := take_one e0
  have f2 := take_one e2
  have f3 := take_one e3
  have fa : ∀ i, i < 12 → ∃ a, cs.toList[1 + i]? = some (.int .i64 a) := by
    intro i hi
    have hi2 := hel i hi
    rw [List.getElem?_eq_getElem (by omega)] at hi2
    obtain ⟨a, ea, _⟩ := DataW.trod_int Tryd.underlying3 hi2
    change ((((cs.toList.drop 1).take (Tryd.prog.cellsOf 32)).drop (i * Tryd.prog.cellsOf 3)).take (Tryd.prog.cellsOf 3)) = _ at ea
    rw [cells1, cells12, Nat.mul_one] at ea
    have hf2 := take_one ea
    refine ⟨a, ?_⟩
    rw [List.getElem?_take, if_pos hi, List.getElem?_drop] at hf2
    exact hf2
  have hall : ∀ i, i < cs.toList.length → ∃ a, cs.toList[i]? = some (.int .i64 a) := by
    intro i hi
    rw [Array.length_toList, hsz] at hi
    by_cases g0 : i = 0
    · subst g0; exact ⟨_, f0⟩
    · by_cases g1 : i < 13
      · obtain ⟨a, ha⟩ := fa (i - 1) (by omega)
        rw [show 1 + (i - 1) = i by omega] at ha
        exact ⟨a, ha⟩
      · by_cases g2 : i = 13
        · subst g2; exact ⟨_, f2⟩
        · have g3 : i = 14 := by omega
          subst g3; exact ⟨_, f3⟩
  obtain ⟨rs, hrs⟩ := ints_of_cells cs.toList hall
  have hlr : rs.length = 15 := by
    have := congrArg List.length hrs
    rw [Array.length_toList, hsz, List.length_map] at this
    omega
  obtain ⟨s, ds, p, q, hd, rfl⟩ := root_of_list rs hlr
  refine ⟨s, ds, p, q, hd, ?_⟩
  rw [cellsI, ← hrs]
end Go.Proofs.YtlegmaadcemgnaaDoor

namespace Go.Proofs.YtlegmaadcemgnaaDoor
namespace fnExactTreeBlocks
open Go.ChangeShapes Go.WideShapes Go.ChangeAt Go.RowKit

set_option linter.unusedVariables false

theorem laidWorld_met (os : Os) (args : Array Value) : laidMetH Tryd.prog Rows.fnExactTreeBlocksRow.laid ((laidWorld os).forCall (fun _ _ => 0) ⟨#[], args, []⟩).memory :=
  laidMetH_of_parts (laidMet_nil _ _) (by kernel_rfl)
theorem errT_of_laid {W : World} (h : laidMetH Tryd.prog Rows.fnExactTreeBlocksRow.laid W) : ErrT W := by
  have h' : laidMet Tryd.prog [] W ∧ handlesMet Tryd.prog Rows.fnExactTreeBlocksRow.laid W := h
  exact errT_of (List.mem_singleton.2 rfl) h'.2

set_option maxRecDepth 100000 in
theorem lifted (os : Os) (started : os.Started) (H : Type) (enc : TypeId × Value → H) :
    ReturnsInHanded {} Tryd.checked os 5 .any (fun w args => (Rows.fnExactTreeBlocksSpec.pre enc Tryd.prog Tryd.f5 [] false w args ∧ laidMetH Tryd.prog Rows.fnExactTreeBlocksRow.laid w) ∧ sizedMet enc Tryd.prog Tryd.f5 (OpenSpec.ofChange Rows.fnExactTreeBlocksSpec) false w args)
      (Rows.fnExactTreeBlocksSpec.post enc Tryd.prog Tryd.f5 false true false false) := by
  refine returnsInHanded_of_change_and (C := Tryd.checked) (X := fun w _ => laidMetH Tryd.prog Rows.fnExactTreeBlocksRow.laid w) (fun _ _ _ hh h => h.of_heap hh) own started (by kernel_rfl) Tryd.func5
    (ChangeSpec.witness_at (enc := enc) (C := Tryd.checked) (os := os) (X := fun w _ => laidMetH Tryd.prog Rows.fnExactTreeBlocksRow.laid w) false (laidWorld os) #[.slice none 0 0, .agg #[.int .i64 0, .int .i64 0, .int .i64 0, .int .i64 0, .int .i64 0, .int .i64 0, .int .i64 0, .int .i64 0, .int .i64 0, .int .i64 0, .int .i64 0, .int .i64 0, .int .i64 0, .int .i64 0, .int .i64 0]] 8 rfl (by kernel_rfl) (by kernel_rfl) (by kernel_rfl) (by kernel_rfl) (by kernel_rfl) (laidWorld_met os _)) ?_
  intro W base args ds gs before hval0 hW hcnd _ hL _
  have hval : ∀ (j : Nat) t v, Tryd.f5.params[j]? = some t → args[j]? = some v → Value.okWide Tryd.prog W .any base t v := hval0
  have hW' := hW
  obtain ⟨p, q, hA0, hV, rfl, hfz, hnd⟩ := hW
  have hA : DataW.TrodAll enc Tryd.prog W 0 (fun _ => true) true Tryd.f5.params.toList args.toList ds p := hA0
  rw [Tryd.params5] at hA hval
  obtain ⟨v0, vs0, d0, ds0, p0, q0, hargs, rfl, rfl, h0, r0⟩ := trodAll_cons hA
  obtain ⟨v1, vs1, d1, ds1, p1, q1, hargs1, rfl, rfl, h1, r1⟩ := trodAll_cons r0
  obtain ⟨rfl, rfl, rfl⟩ := trodAll_nil r1
  obtain rfl : args = #[v0, v1] := by cases args; simp_all
  obtain ⟨rfl, rfl⟩ := trodVars_none hV
  obtain ⟨a0, len0, cap0, rfl⟩ := okWide_slice Tryd.underlying22 (hval 0 22 v0 rfl rfl)
  have k0 := h0
  have lt0 : ∀ x ∈ p0, x.block < W.heap.size := by obtain ⟨m, hm⟩ := k0; exact DataW.trod_lt m _ _ _ hm
  obtain ⟨z0, w0⟩ : ∃ zs, IsRow .u8 W a0 len0 cap0 zs := by
    obtain ⟨fuel, hf⟩ := h0
    rcases open_ints Tryd.underlying22 Tryd.underlying5 (by kernel_rfl) hf with ⟨hcs, _⟩ | ⟨x, l, c, zs, hcs, _, hl, hm, hz, _, hcell, hwz⟩
    · simp [Value.cells] at hcs
      obtain ⟨rfl, rfl, rfl⟩ := hcs
      exact ⟨[], .inl ⟨rfl, rfl, rfl, rfl⟩⟩
    · simp [Value.cells] at hcs
      obtain ⟨rfl, rfl, rfl⟩ := hcs
      exact ⟨zs, .inr ⟨_, rfl, hl, hm, by simpa using hz, hcell, hwz⟩⟩
  have k1 := h1
  have lt1 : ∀ x ∈ p1, x.block < W.heap.size := by obtain ⟨m, hm⟩ := k1; exact DataW.trod_lt m _ _ _ hm
  obtain ⟨rs1, rd1, rp1, rq1, w1, rfl⟩ := open_root (hval 1 43 v1 rfl rfl) h1
  clear hA0 hval0
  refine (lawTrb _ _ _ _ _ _ _ (Rd.of_row w0).1 (bytes_bd (Rd.of_row w0).2.2) w1 (errT_of_laid hL)).mono fun e W' ⟨he, bel⟩ => ?_
  subst he
  exact ⟨_, rfl, _, _, _, [], _, [], hW', trodAll_mk1 (shut_bool Tryd.underlying4 _), (trodAll_cons_mk (Below.trod laidOut (by kernel_rfl) (of_decide_eq_true (by kernel_rfl)) k0 bel lt0) (trodAll_cons_mk (Below.trod laidOut (by kernel_rfl) (of_decide_eq_true (by kernel_rfl)) k1 bel lt1) trodAll_mk0)), rfl, bel.frame _, fun h => by cases h⟩

theorem said : Rows.FnExactTreeBlocksSaid :=
  OpenClaim.holds_of_wide 5 Tryd.f5 rfl rfl rfl rfl rfl rfl rfl ⟨rfl, rfl, rfl, rfl, rfl⟩ rfl rfl rfl rfl rfl (by kernel_rfl) Tryd.func5 (by kernel_rfl)
    (of_decide_eq_true (by kernel_rfl)) (by unfold Func.isWrapper; first | (rw [if_pos (by decide +kernel)]; kernel_rfl) | (rw [if_neg (by decide +kernel)]; exact ⟨rfl, rfl⟩))
    (fun os started H enc _ => lifted os started H enc)

theorem plain (f : FuncId) (fn : Func) (hf : Tryd.pinned.checked.prog.funcNamed "loop.example/s02533/laws.FnExactTreeBlocks" = some f) (hfn : Tryd.pinned.checked.prog.funcs[f]? = some fn) :
    true = Tryd.pinned.checked.prog.looks [] ∧ ∀ (j : Nat) t, fn.params[j]? = some t → Tryd.pinned.checked.prog.wantsStandIn t = false := by
  obtain rfl : f = 5 := Option.some.inj ((show Tryd.prog.funcNamed "loop.example/s02533/laws.FnExactTreeBlocks" = some 5 by kernel_rfl).symm.trans hf) |>.symm
  obtain rfl : fn = Tryd.f5 := (Option.some.inj (Tryd.func5.symm.trans hfn)).symm
  refine ⟨by kernel_rfl, fun j t ht => ?_⟩
  rw [Tryd.params5] at ht
  have hm : t = 22 ∨ t = 43 := by have h := Array.mem_of_getElem? ht; simp at h; first | exact h | (rcases h with h | h | h <;> simp [h]) | (rcases h with h | h | h | h <;> simp [h])
  rcases hm with rfl | rfl
  · exact (show Tryd.prog.wantsStandIn 22 = false by kernel_rfl)
  · exact (show Tryd.prog.wantsStandIn 43 = false by kernel_rfl)
end fnExactTreeBlocks

/-- The card. -/
theorem treeBlocks_card : Rows.FnExactTreeBlocksCardSaid :=
  Claim7.holds_tied_plain_at .later [] _ _ _ _ fnExactTreeBlocks.said (fun _ h => by cases h) (by kernel_rfl) (fun _ h => by cases h) fnExactTreeBlocks_row_tie rfl ⟨rfl, rfl⟩ (by kernel_rfl) rfl fnExactTreeBlocks.plain (by kernel_rfl)
#print axioms treeBlocks_card
end Go.Proofs.YtlegmaadcemgnaaDoor
