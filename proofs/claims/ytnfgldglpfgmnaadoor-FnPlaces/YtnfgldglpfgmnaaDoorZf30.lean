/- The program's numbered. -/
import Derived.Test.YtnfgldglpfgmnaaDoorZf29
namespace Go.Proofs.YtnfgldglpfgmnaaDoor
set_option linter.unusedVariables false
set_option linter.unusedSimpArgs false
open Go.RowKit Go.Shelf
attribute [local go_sem] Oper.semAt_some

theorem tellG_lv {cnt n : Nat} {W : Int → Nat → Int} : ∀ (l r : Nat) (p : Int) (h : HG), h ∈ (tellG cnt n W l r p).1 → h.1 ≤ l ∧ firI h.1 h.2.1 < cnt
  | 0, r, p, h, hm => by
    unfold tellG at hm
    by_cases h0 : cnt ≤ firI 0 r ∨ p = 0
    · rw [if_pos h0] at hm; simp at hm
    · rw [if_neg h0] at hm
      cases hg : goodP n p with
      | false => rw [if_pos hg] at hm; simp at hm
      | true =>
        rw [if_neg (by rw [hg]; decide)] at hm
        simp at hm
        subst hm
        exact ⟨Nat.le_refl _, by have h1 : ¬ cnt ≤ firI 0 r := fun e => h0 (.inl e); show firI 0 r < cnt; omega⟩
  | l + 1, r, p, h, hm => by
    unfold tellG at hm
    by_cases h0 : cnt ≤ firI (l + 1) r ∨ p = 0
    · rw [if_pos h0] at hm; simp at hm
    · rw [if_neg h0] at hm
      cases hg : goodP n p with
      | false => rw [if_pos hg] at hm; simp at hm
      | true =>
        rw [if_neg (by rw [hg]; decide)] at hm
        unfold thenT at hm
        rw [if_neg (by simp)] at hm
        rcases List.mem_append.1 hm with hm | hm
        · simp at hm
          subst hm
          exact ⟨Nat.le_refl _, by have h1 : ¬ cnt ≤ firI (l + 1) r := fun e => h0 (.inl e); show firI (l + 1) r < cnt; omega⟩
        · obtain ⟨a, ha, h2⟩ := mem_allT _ h hm
          obtain ⟨k, _, rfl⟩ := List.mem_map.1 ha
          have := tellG_lv l _ _ h h2
          exact ⟨by omega, this.2⟩
theorem tops_lv {cnt n : Nat} {W : Int → Nat → Int} {Pv : Nat → Int} {h : HG} (hm : h ∈ (allT (topsT cnt n W Pv)).1) : h.1 < 3 ∧ h.2.1 < cnt := by
  obtain ⟨a, ha, h2⟩ := mem_allT _ h hm
  unfold topsT at ha
  obtain ⟨j, _, rfl⟩ := List.mem_map.1 ha
  have h3 := tellG_lv _ _ _ h h2
  have h4 := topL_le j
  exact ⟨by omega, Nat.lt_of_le_of_lt (firI_le h.1 h.2.1) h3.2⟩
theorem numL_fold {cnt : Nat} (l : Nat) : ∀ (A : List TX) (f : Nat → List Int), (f l).length ≤ cnt → (∀ x ∈ A, x.1.2.1 < cnt) → ((A.foldl (fun f x => upd f x.1.1 (setN (f x.1.1) x.1.2.1 x.1.2.2)) f) l).length ≤ cnt
  | [], f, h, _ => h
  | x :: A, f, h, hA => by
    rw [List.foldl_cons]
    refine numL_fold l A _ ?_ (fun y hy => hA y (List.mem_cons_of_mem _ hy))
    have h2 := hA x List.mem_cons_self
    by_cases e : l = x.1.1
    · subst e
      rw [upd_same, setN_len]
      omega
    · rw [upd_other _ _ _ _ e]
      exact h
theorem numL_len {cnt : Nat} (l : Nat) (A : List HG) (hA : ∀ h ∈ A, h.2.1 < cnt) : (numL (upX A) l).length ≤ cnt := by
  refine numL_fold l (upX A) _ (by simp) (fun x hx => ?_)
  unfold upX at hx
  obtain ⟨h, hh, rfl⟩ := List.mem_map.1 hx
  exact hA h hh
theorem Kq.num {n₀ z b base n : Nat} {Ty : TypeId → Prop} {W W' : World} {sv : Value} {C : Array Value} {t : TypeId} {xs : List Value} (h : NumF W W' b sv) (hb : Blk W b C t) (ho : W.ownsRow base 3 1 sv n xs) (ht : Ty t) (hi : Ty 3) (hn : n₀ ≤ b) (hn2 : n₀ ≤ base) : Kq n₀ z Ty W W' := by
  have hlt := hb.lt
  refine ⟨⟨h.os, h.tape, h.output, h.size, fun k hk => h.block k (by omega) (by omega) (fun e => by have := (ho.lt k e).1; omega)⟩, fun k cs u fr hk hu => ?_, fun k o hz hk hc => ?_, h.size⟩
  · refine (h.block k (Array.getElem?_eq_some_iff.1 hk).1 (fun e => ?_) (fun e => ?_)).trans hk
    · subst e
      have hb' : W.heap[k]? = some (.cells C t) := hb
      rw [hb'] at hk
      cases hk
      exact hu ht
    · obtain ⟨_, C', hC⟩ := own_rowB ho e
      have hb' : W.heap[k]? = some (.cells C' 3) := hC
      rw [hb'] at hk
      cases hk
      exact hu hi
  · refine (h.block k (Array.getElem?_eq_some_iff.1 hk).1 (fun e => ?_) (fun e => ?_)).trans hk
    · subst e
      have hb' : W.heap[k]? = some (.cells C t) := hb
      rw [hb'] at hk
      cases hk
      cases hc
    · obtain ⟨_, C', hC⟩ := own_rowB ho e
      have hb' : W.heap[k]? = some (.cells C' 3) := hC
      rw [hb'] at hk
      cases hk
      cases hc
/-- Between two rounds of numbered. -/
structure NbrI (w : World) (C : Array Value) (Z : TL) (pre : List TX) (W : World) : Prop where
  told : ∃ A, pre = upX A ∧ A <+: Z.1
  nums : ∃ D sl, D.size = 3 ∧ NumS W w.heap.size (w.heap.size + 3) 0 D 69 sl (numL pre)
  tree : Blk W w.heap.size C 67
  res1 : Blk W (w.heap.size + 1) #[.slice none 0 0, .slice none 0 0, .slice none 0 0] 69
  res2 : Blk W (w.heap.size + 2) #[.nilIface] 61
  old : Below w.heap.size w W
  size : w.heap.size + 7 ≤ W.heap.size
theorem NbrI.abides {w : World} {z : Nat} {C : Array Value} {Z : TL} (hz : w.heap.size ≤ z) : AbidesZ z (NbrI w C Z) := by
  intro pre A B row h hg hr
  obtain ⟨D, sl, h0, h1⟩ := h.nums
  exact ⟨h.told, ⟨D, sl, h0, h1.abide hg hr⟩, blk_abide h.tree hg hr, blk_abide h.res1 hg hr, blk_abide h.res2 hg hr, below_abide h.old hz (by have := h.size; omega) hg hr, Nat.le_trans h.size hg.size⟩
theorem cell_self {A : World} {a : Addr} {v : Value} (h : A.cell? a = some v) {b o : Nat} {u : Value} (hc : A.cell? ⟨b, o, none⟩ = some u) : (A.setCell a v).cell? ⟨b, o, none⟩ = some u := by
  by_cases e : a = ⟨b, o, none⟩
  · subst e
    rw [h] at hc
    cases hc
    exact World.cell?_setCell_same _ _ _ h
  · rw [World.cell?_setCell_other _ _ _ _ e]
    exact hc
theorem results_nums {fn : Func} {p q : Tmp} (h : fn.results = #[.cell p 69, .cell q 61]) (tmps : Array Value) (w : World) (R1 R2 : Nat) (D : Array Value) (v2 : Value) (hp : tmps.getD p undef = .pointer (some ⟨R1, 0, none⟩)) (hq : tmps.getD q undef = .pointer (some ⟨R2, 0, none⟩))
    (h1 : Blk w R1 D 69) (hD : D.size = 3) (h2 : Blk w R2 #[v2] 61) : (results fn tmps).run Tryd.prog w = .ok (.tuple #[.agg D, v2]) w := by
  have c2 := (h2.cell 0).trans (show _ = some v2 from rfl)
  have hp' : tmps[p]?.getD undef = .pointer (some ⟨R1, 0, none⟩) := by rw [← Array.getD_eq_getD_getElem?]; exact hp
  have hq' : tmps[q]?.getD undef = .pointer (some ⟨R2, 0, none⟩) := by rw [← Array.getD_eq_getD_getElem?]; exact hq
  obtain ⟨d0, d1, d2, rfl⟩ : ∃ d0 d1 d2, D = #[d0, d1, d2] := by
    match D, hD with
    | ⟨[d0, d1, d2]⟩, _ => exact ⟨d0, d1, d2, rfl⟩
  have c10 := (h1.cell 0).trans (show _ = some d0 from rfl)
  have c11 := (h1.cell 1).trans (show _ = some d1 from rfl)
  have c12 := (h1.cell 2).trans (show _ = some d2 from rfl)
  simp only [results, h]
  go_simp
set_option maxRecDepth 100000 in
set_option maxHeartbeats 4000000 in
theorem numbered_any (cnt sz : Nat) (zs : List Int) (C : Array Value) (Pv : Nat → Int) (iv : Value) (w : World) (Z : TL)
    (hC0 : C[0]? = some iv) (hC1 : C[1]? = some (.int .i64 (sz : Int))) (hCP : ∀ j, j < 14 → C[2 + j]? = some (.int .i64 (Pv j))) (hCs : C.size = 16) (hR : Rd .u8 w iv zs) (hz : zs.length ≤ 1048576) (hbd : ∀ z ∈ zs, 0 ≤ z ∧ z < 256) (hsz : sz ≤ 262144) (hcnt : cnt = (sz + 511) / 512)
    (hZ : Z = allT (topsT cnt (zs.length / 512) (wrdP zs) Pv)) :
    Calls Tryd.prog 45 #[.agg C] w fun e w' => ∃ D ev, e = .returned (.tuple #[.agg D, ev]) ∧ D.size = 3 ∧ ((Z.2 = false ∧ ev = .nilIface ∧ ∃ b sl, NumS w' w.heap.size b 0 D 69 sl (numL (upX Z.1))) ∨ (Z.2 = true ∧ ∃ n, Flt w' 0 n ev 21)) ∧ Below w.heap.size w w' := by
  have HC := hide (And.intro hC0 (And.intro hC1 (And.intro hCP hCs)))
  have HR := hide (And.intro hR hbd)
  have HZ := hide hZ
  have HZl := hide (show ∀ h ∈ Z.1, h.1 < 3 ∧ h.2.1 < cnt from fun h hm => by rw [hZ] at hm; exact tops_lv hm)
  clear hC0 hC1 hCP hCs hR hbd hZ
  obtain ⟨W0, hW0⟩ : ∃ W0, W0 = (((w.alloc (.cells C 67)).alloc (.cells #[.slice none 0 0, .slice none 0 0, .slice none 0 0] 69)).alloc (.cells #[.nilIface] 61)).alloc (.cells #[.slice none 0 0, .slice none 0 0, .slice none 0 0] 69) := ⟨_, rfl⟩
  have hs0 : W0.heap.size = w.heap.size + 4 := by rw [hW0]; simp
  have B0 := hide (show Below w.heap.size w W0 from by rw [hW0]; exact ((((Below.refl _ _).alloc (Nat.le_refl _) _).alloc (by simp) _).alloc (by simp; omega) _).alloc (by simp; omega) _)
  have K0 := hide (show Blk W0 w.heap.size C 67 from by rw [hW0]; exact (((Blk.new w C _).alloc _).alloc _).alloc _)
  have K1 := hide (show Blk W0 (w.heap.size + 1) #[.slice none 0 0, .slice none 0 0, .slice none 0 0] 69 from by have h := Blk.new (w.alloc (.cells C 67)) #[.slice none 0 0, .slice none 0 0, .slice none 0 0] 69; rw [World.size_alloc] at h; rw [hW0]; exact (h.alloc _).alloc _)
  have K2 := hide (show Blk W0 (w.heap.size + 2) #[.nilIface] 61 from by have h := Blk.new ((w.alloc (.cells C 67)).alloc (.cells #[.slice none 0 0, .slice none 0 0, .slice none 0 0] 69)) #[.nilIface] 61; rw [World.size_alloc, World.size_alloc] at h; rw [hW0]; exact h.alloc _)
  have K3 := hide (show Blk W0 (w.heap.size + 3) #[.slice none 0 0, .slice none 0 0, .slice none 0 0] 69 from by have h := Blk.new (((w.alloc (.cells C 67)).alloc (.cells #[.slice none 0 0, .slice none 0 0, .slice none 0 0] 69)).alloc (.cells #[.nilIface] 61)) #[.slice none 0 0, .slice none 0 0, .slice none 0 0] 69; rw [World.size_alloc, World.size_alloc, World.size_alloc] at h; rw [hW0]; exact h)
  have HW0 := hide hW0
  have HS0 := hide hs0
  clear hW0 hs0
  obtain ⟨WL, hWL⟩ : ∃ WL, WL = W0.alloc (.cells C 67) := ⟨_, rfl⟩
  have hs0a : W0.heap.size ≤ w.heap.size + 4 := by rw [HS0.out]; omega
  have hs0b : w.heap.size + 4 ≤ W0.heap.size := by rw [HS0.out]; omega
  have b0L : Below W0.heap.size W0 WL := by rw [hWL]; exact (Below.refl _ _).alloc (Nat.le_refl _) _
  have hsLe : WL.heap.size = W0.heap.size + 1 := by rw [hWL]; simp
  have hsLa : WL.heap.size ≤ W0.heap.size + 1 := by rw [hsLe]; omega
  have hsLb : W0.heap.size + 1 ≤ WL.heap.size := by rw [hsLe]; omega
  clear hsLe
  have I0 := hide (show ∀ W', Below WL.heap.size WL W' → WL.heap.size + 2 ≤ W'.heap.size → NbrI w C Z [] W' from fun W' hb hs' => by
    have hb0 : Below W0.heap.size W0 W' := b0L.trans (hb.mono (by omega))
    refine ⟨⟨[], rfl, List.nil_prefix⟩, ⟨_, fun _ => .slice none 0 0, rfl, K3.out.below hb0 K3.out.lt, fun l hl => ?_, fun l hl => World.ownsRow_nil _ _ _ _, fun l m _ _ _ => .inl rfl⟩, K0.out.below hb0 K0.out.lt, K1.out.below hb0 K1.out.lt, K2.out.below hb0 K2.out.lt, B0.out.trans (hb0.mono (by omega)), by omega⟩
    rw [Nat.zero_add]
    match l, hl with
    | 0, _ => rfl
    | 1, _ => rfl
    | 2, _ => rfl)
  have HX := hide (show Blk WL W0.heap.size C 67 from by rw [hWL]; exact Blk.new W0 C 67)
  have HBL := hide (show Below w.heap.size w WL from B0.out.trans (b0L.mono (by omega)))
  have HWL := hide hWL
  clear hWL b0L
  refine (callsIn_wide (n := 6)).1 ?_
  refine callsIn_of_wp_marks Tryd.func45 rfl trivial ?_ rfl
  simp only [Tryd.ntmps45, List.size_toArray, List.length_cons, List.length_nil, Nat.reduceAdd, Nat.reduceSub, Array.replicate_succ, Array.replicate_zero, List.push_toArray, List.append_toArray, List.nil_append, List.cons_append]
  gi_upto_region 2 with fail
  rw [← HW0.out]
  refine wpIn_wide.2 ?_
  go_wp2_with (first
    | (refine wpList_load_row rfl 67 _ rfl w.heap.size rfl 67 C (0, 0) _ K0.out Tryd.underlying67 rfl (by rw [HC.out.2.2.2]; exact infoTr) ?_)
    | (go_at_call 65; refine (callsIn_wide.1 (blocks_in 0 C _)).mono ?_; rintro e w' ⟨rfl, rfl⟩))
  gi_wp2
  rw [← HWL.out]
  have hmx : Tryd.prog.follows .mixedOrders = true := by kernel_rfl
  refine wpIn_rangeGoesK (α := TX) rfl (by decide) (gf := 90) (lb := #[.pointer (some ⟨W0.heap.size, 0, none⟩)]) rfl trivial (enters_of Tryd.func90 (by kernel_rfl) rfl) (encs := TX.enc) (Kp := (Kq w.heap.size (WL.heap.size + 2) (fun t => t = 69 ∨ t = 3))) Kq.trans (fun A o o' ho hc => Kq.put o' (by omega) (by omega) ho hc)
    (Ok := OkX Z) (S := fun xs => (Z.2 = false ∧ xs = upX Z.1) ∨ (Z.2 = true ∧ ∃ x, xs = upX Z.1 ++ [x])) (Sp := fun _ => True)
    (fun W1 hb1 hs1 => by
      have := blocks_goes 5 (by omega) W0.heap.size w.heap.size (fun t => t = 69 ∨ t = 3) Z cnt sz zs C Pv iv w W1 (by decide) (by decide) (by decide) (by decide) HC.out.1 HC.out.2.1 HC.out.2.2.1 HC.out.2.2.2 HR.out.1 rfl hz HR.out.2 hsz hcnt HZ.out (HX.out.below hb1 HX.out.lt) (HBL.out.trans (hb1.mono (by omega))) (by omega)
      rw [hs1] at this
      exact this)
    (fun _ => rfl) (NbrI w C Z)
    (fun c pre Wx => c = .ret ∧ Z.2 = true ∧ (∃ v, Blk Wx (w.heap.size + 1) #[.slice none 0 0, .slice none 0 0, .slice none 0 0] 69 ∧ Blk Wx (w.heap.size + 2) #[v] 61 ∧ ∃ n, Flt Wx 0 n v 21) ∧ Below w.heap.size w Wx)
    (NbrI.abides (by omega))
    (by
      rintro c pre A B row ⟨h1, h2, ⟨v, h3, h4, n, h5⟩, h6⟩ hg hr
      exact ⟨h1, h2, ⟨v, blk_abide h3 hg hr, blk_abide h4 hg hr, n, flt_abide h5 hg hr⟩, below_abide h6 (by omega) h6.size hg hr⟩)
    (fun W' hb hs' => I0.out W' hb (by omega))
    (fun pre x a' Wx => ∃ c, a' = { tmps := #[.agg C, .pointer (some ⟨w.heap.size, 0, none⟩), .pointer (some ⟨w.heap.size + 1, 0, none⟩), .pointer (some ⟨w.heap.size + 1 + 1, 0, none⟩), .pointer (some ⟨w.heap.size + 1 + 1 + 1, 0, none⟩), .pointer (some ⟨c, 0, none⟩), x.2, .agg C, .func (.func 90) #[] #[.pointer (some ⟨W0.heap.size, 0, none⟩)], .agg #[.int .i64 (x.1.1 : Int), .int .i64 (x.1.2.1 : Int), .int .i64 x.1.2.2], x.2, undef, undef, undef, undef, undef, undef, undef, undef, undef, undef], defers := [] } ∧ Blk Wx c #[.int .i64 (x.1.1 : Int), .int .i64 (x.1.2.1 : Int), .int .i64 x.1.2.2] 131 ∧ w.heap.size + 7 ≤ c ∧ (NbrI w C Z) pre Wx ∧ OkX Z pre x Wx) ?ax ?assign ?body ?done ?stop
  case ax =>
    rintro pre x a' A B ⟨c, h1, h2, h2c, h3, h4⟩ hg hr
    exact ⟨c, h1, blk_bare h2 hg hr, h2c, NbrI.abides (z := WL.heap.size + 1) (by omega) pre A B _ h3 hg (fun r e => by cases e; exact ⟨Nat.le_refl _, hr⟩), okX_abide (z := 0) h4 hg (fun r e => by cases e; exact ⟨Nat.zero_le _, hr⟩)⟩
  case assign =>
    rintro l pre ⟨⟨lv, rk, p⟩, ev⟩ Wx K hI hok hK
    have HK := hide (And.intro hI (And.intro hok hK))
    clear hI hok hK
    unfold TX.enc
    gi_wp2
    have bA : Below Wx.heap.size Wx (Wx.alloc (.cells #[.int .i64 (lv : Int), .int .i64 (rk : Int), .int .i64 p] 131)) := (Below.refl _ _).alloc (Nat.le_refl _) _
    have gA : Wx.grownBy (Wx.alloc (.cells #[.int .i64 (lv : Int), .int .i64 (rk : Int), .int .i64 p] 131)) none := ⟨bA.os, bA.tape, bA.output, bA.size, fun k hk _ => bA.block k hk⟩
    exact HK.out.2.2 _ _ (keeps_belowT bA) (Kq.of_below bA (by have := HK.out.1.size; omega)) ⟨_, rfl, Blk.new _ _ _, HK.out.1.size, NbrI.abides (z := w.heap.size) (Nat.le_refl _) pre _ _ none HK.out.1 gA (fun r e => by cases e), okX_abide (z := 0) HK.out.2.1 gA (fun r e => by cases e)⟩
  case body =>
    rintro l pre ⟨⟨lv, rk, p⟩, ev⟩ a' Wx ⟨c, rfl, kc, hcs, hI, hok⟩
    dsimp only at kc ⊢
    have hIs := hI.size
    rcases hok with ⟨hev, A, hA, hpre⟩ | ⟨hx0, A, hA, hZt, nf, hfl⟩
    · dsimp only at hev
      subst hev
      have HT2 := hide (show ∃ A', pre ++ [((lv, rk, p), Value.nilIface)] = upX A' ∧ A' <+: Z.1 from ⟨A ++ [(lv, rk, p)], by rw [upX_snoc, hA], hpre⟩)
      have HLv := hide (show lv < 3 ∧ rk < cnt from HZl.out _ (ok_mem hpre))
      have HLn := hide (show (numL pre lv).length ≤ cnt from by rw [hA]; exact numL_len lv A (fun h hh => (HZl.out h (hpre.subset (by simp [hh]))).2))
      obtain ⟨D, sl, hD3, hns⟩ := hI.nums
      have HI := hide (And.intro hI (And.intro kc (And.intro hD3 hns)))
      have c2 := (kc.cell 2).trans (show _ = some (.int .i64 p) from rfl)
      have hrg : Wx.rangeAt c 0 [.int .i64 (lv : Int), .int .i64 (rk : Int)] := by
        intro j v hj
        match j, hj with
        | 0, hj => rw [(kc.cell (0 + 0))]; simpa using hj
        | 1, hj => rw [(kc.cell (0 + 1))]; simpa using hj
        | k + 2, hj => simp at hj
      have HRg := hide hrg
      have hcnt2 : cnt ≤ 512 := by omega
      clear hI kc hpre hA hD3 hns hrg
      gi_wp2_with (first
        | (refine wpListIn_load_mid rfl 113 _ rfl c 0 rfl [.int .i64 (lv : Int), .int .i64 (rk : Int)] _ HRg.out Tryd.underlying113 rfl infoSp ?_)
        | (refine ⟨trivial, ?_⟩; gi_at_call 70; refine (CallsIn.inRound l (callsIn_wide.2 (setS_any (w.heap.size + 3) 0 lv rk D 69 sl (numL pre) p w.heap.size _ HI.out.2.2.2 HLv.out.1 (by have := HLv.out.2; omega) (by have := HLn.out; omega) (by decide) (by omega)))).mono ?_; rintro e w9 ⟨rfl, sw, n9, f9⟩; have H9 := hide (And.intro n9 f9); clear n9 f9))
      have kF : ∀ z, Kq w.heap.size z (fun t => t = 69 ∨ t = 3) Wx w9 := fun z => Kq.num H9.out.2 HI.out.2.2.2.box (HI.out.2.2.2.row lv HLv.out.1) (.inl rfl) (.inr rfl) (by omega) (Nat.le_refl _)
      have HN := hide (show NbrI w C Z (pre ++ [((lv, rk, p), Value.nilIface)]) w9 from
        ⟨HT2.out, ⟨D.setIfInBounds (0 + lv) sw, upd sl lv sw, by simpa using HI.out.2.2.1, by rw [numL_snoc]; exact H9.out.1⟩, H9.out.2.blk (HI.out.2.2.2.row lv HLv.out.1) HI.out.1.tree (by omega) (by decide), H9.out.2.blk (HI.out.2.2.2.row lv HLv.out.1) HI.out.1.res1 (by omega) (by decide), H9.out.2.blk (HI.out.2.2.2.row lv HLv.out.1) HI.out.1.res2 (by omega) (by decide), HI.out.1.old.trans (kF 0).below, Nat.le_trans HI.out.1.size (kF 0).size⟩)
      exact ⟨(kF _).keepsZ, kF _, HN.out⟩
    · obtain ⟨t', x', rfl⟩ := hfl.iface
      have HI := hide (And.intro hI hfl)
      have c1 := (hI.res1.cell 0).trans (show _ = some (.slice none 0 0) from rfl)
      have c11 := (hI.res1.cell 1).trans (show _ = some (.slice none 0 0) from rfl)
      have c12 := (hI.res1.cell 2).trans (show _ = some (.slice none 0 0) from rfl)
      have f1 := hI.res1.frozen 0
      have f11 := hI.res1.frozen 1
      have f12 := hI.res1.frozen 2
      have c2 := (hI.res2.cell 0).trans (show _ = some .nilIface from rfl)
      have f2 := hI.res2.frozen 0
      have HZt := hide (show Z.2 = true by rw [hZt])
      clear hI hfl hA hZt
      gi_wp2
      obtain ⟨WE, hWE⟩ : ∃ WE, WE = (((Wx.setCell ⟨w.heap.size + 1, 0, none⟩ (.slice none 0 0)).setCell ⟨w.heap.size + 1, 1, none⟩ (.slice none 0 0)).setCell ⟨w.heap.size + 1, 2, none⟩ (.slice none 0 0)).setCell ⟨w.heap.size + 1 + 1, 0, none⟩ (.iface t' (.pointer (some x'))) := ⟨_, rfl⟩
      rw [← hWE]
      have k1 := HI.out.1.res1
      have s1 := k1.set 0 (.slice none 0 0)
      have s2 := s1.set 1 (.slice none 0 0)
      have s3 := s2.set 2 (.slice none 0 0)
      have r2 := ((HI.out.1.res2.other ⟨w.heap.size + 1, 0, none⟩ (.slice none 0 0) (by show w.heap.size + 2 ≠ w.heap.size + 1; omega)).other ⟨w.heap.size + 1, 1, none⟩ (.slice none 0 0) (by show w.heap.size + 2 ≠ w.heap.size + 1; omega)).other ⟨w.heap.size + 1, 2, none⟩ (.slice none 0 0) (by show w.heap.size + 2 ≠ w.heap.size + 1; omega)
      have g1 : Blk WE (w.heap.size + 1) #[.slice none 0 0, .slice none 0 0, .slice none 0 0] 69 := by rw [hWE]; exact s3.other _ _ (by show w.heap.size + 1 ≠ w.heap.size + 1 + 1; omega)
      have g2 : Blk WE (w.heap.size + 2) #[.iface t' (.pointer (some x'))] 61 := by rw [hWE]; exact r2.set 0 _
      have fl : Flt WE 0 nf (.iface t' (.pointer (some x'))) 21 := by
        rw [hWE]
        refine flt_set r2 (by intro k z h; cases h) _ ?_
        refine Flt.keep (fun b o u _ hc => cell_self ((s2.cell 2).trans rfl) hc) ?_
        refine Flt.keep (fun b o u _ hc => cell_self ((s1.cell 1).trans rfl) hc) ?_
        exact Flt.keep (fun b o u _ hc => cell_self ((k1.cell 0).trans rfl) hc) HI.out.2
      have hold : Below w.heap.size w WE := by
        rw [hWE]
        exact (((HI.out.1.old.setCell (p := ⟨w.heap.size + 1, 0, none⟩) (by show w.heap.size ≤ w.heap.size + 1; omega) _).setCell (p := ⟨w.heap.size + 1, 1, none⟩) (by show w.heap.size ≤ w.heap.size + 1; omega) _).setCell (p := ⟨w.heap.size + 1, 2, none⟩) (by show w.heap.size ≤ w.heap.size + 1; omega) _).setCell (p := ⟨w.heap.size + 1 + 1, 0, none⟩) (by show w.heap.size ≤ w.heap.size + 1 + 1; omega) _
      have hko : KeepsOthers Wx WE := by rw [hWE]; exact (((KeepsOthers.setCell _ _ _).trans (KeepsOthers.setCell _ _ _)).trans (KeepsOthers.setCell _ _ _)).trans (KeepsOthers.setCell _ _ _)
      exact ⟨hko.from _, ⟨rfl, HZt.out, ⟨g1, _, g2, nf, fl⟩, hold⟩⟩
  case done =>
    rintro xs Wx hS hI hK
    obtain ⟨D, sl, hD3, hns⟩ := hI.nums
    obtain ⟨a0, q0, e0⟩ := own_shape5 (hns.row 0 (by omega))
    obtain ⟨a1, q1, e1⟩ := own_shape5 (hns.row 1 (by omega))
    obtain ⟨a2, q2, e2⟩ := own_shape5 (hns.row 2 (by omega))
    obtain ⟨n0, hn0⟩ : ∃ n0, n0 = (numL xs 0).length := ⟨_, rfl⟩
    obtain ⟨n1, hn1⟩ : ∃ n1, n1 = (numL xs 1).length := ⟨_, rfl⟩
    obtain ⟨n2, hn2⟩ : ∃ n2, n2 = (numL xs 2).length := ⟨_, rfl⟩
    obtain rfl : D = #[.slice a0 n0 q0, .slice a1 n1 q1, .slice a2 n2 q2] := by
      match D, hD3, hns.at_ 0 (by omega), hns.at_ 1 (by omega), hns.at_ 2 (by omega) with
      | ⟨[d0, d1, d2]⟩, _, h0, h1, h2 =>
        have h0' : d0 = sl 0 := by simpa using h0
        have h1' : d1 = sl 1 := by simpa using h1
        have h2' : d2 = sl 2 := by simpa using h2
        rw [h0', h1', h2', e0, e1, e2, hn0, hn1, hn2]
    have HI := hide (And.intro hI (And.intro hK hns))
    have HSx := hide hS
    have b0 : Wx.cell? ⟨w.heap.size + 1 + 1 + 1, 0, none⟩ = some (.slice a0 n0 q0) := (hns.box.cell 0).trans rfl
    have b1 : Wx.cell? ⟨w.heap.size + 1 + 1 + 1, 1, none⟩ = some (.slice a1 n1 q1) := (hns.box.cell 1).trans rfl
    have b2 : Wx.cell? ⟨w.heap.size + 1 + 1 + 1, 2, none⟩ = some (.slice a2 n2 q2) := (hns.box.cell 2).trans rfl
    have c10 := (hI.res1.cell 0).trans (show _ = some (.slice none 0 0) from rfl)
    have c11 := (hI.res1.cell 1).trans (show _ = some (.slice none 0 0) from rfl)
    have c12 := (hI.res1.cell 2).trans (show _ = some (.slice none 0 0) from rfl)
    have f1 := hI.res1.frozen 0
    have f11 := hI.res1.frozen 1
    have f12 := hI.res1.frozen 2
    have c2 := (hI.res2.cell 0).trans (show _ = some .nilIface from rfl)
    have f2 := hI.res2.frozen 0
    clear hI hK hS hns e0 e1 e2 hn0 hn1 hn2 hD3
    gi_wp2
    have hZ0 : Z.2 = false ∧ xs = upX Z.1 := by
      rcases HSx.out with h | ⟨h, x, hx⟩
      · exact h
      · exfalso
        obtain ⟨A, hA, hp⟩ := HI.out.1.told
        have h1 := congrArg List.length (hx.symm.trans hA)
        have h2 := hp.length_le
        unfold upX at h1
        simp at h1
        omega
    obtain ⟨hZ1, rfl⟩ := hZ0
    obtain ⟨WE, hWE⟩ : ∃ WE, WE = (((Wx.setCell ⟨w.heap.size + 1, 0, none⟩ (.slice a0 n0 q0)).setCell ⟨w.heap.size + 1, 1, none⟩ (.slice a1 n1 q1)).setCell ⟨w.heap.size + 1, 2, none⟩ (.slice a2 n2 q2)).setCell ⟨w.heap.size + 1 + 1, 0, none⟩ .nilIface := ⟨_, rfl⟩
    rw [← hWE]
    have k1 := HI.out.1.res1
    have s1 := k1.set 0 (.slice a0 n0 q0)
    have s2 := s1.set 1 (.slice a1 n1 q1)
    have s3 := s2.set 2 (.slice a2 n2 q2)
    have r2 := ((HI.out.1.res2.other ⟨w.heap.size + 1, 0, none⟩ (.slice a0 n0 q0) (by show w.heap.size + 2 ≠ w.heap.size + 1; omega)).other ⟨w.heap.size + 1, 1, none⟩ (.slice a1 n1 q1) (by show w.heap.size + 2 ≠ w.heap.size + 1; omega)).other ⟨w.heap.size + 1, 2, none⟩ (.slice a2 n2 q2) (by show w.heap.size + 2 ≠ w.heap.size + 1; omega)
    have g1 : Blk WE (w.heap.size + 1) #[.slice a0 n0 q0, .slice a1 n1 q1, .slice a2 n2 q2] 69 := by rw [hWE]; exact s3.other _ _ (by show w.heap.size + 1 ≠ w.heap.size + 1 + 1; omega)
    have g2 : Blk WE (w.heap.size + 1 + 1) #[.nilIface] 61 := by rw [hWE]; exact r2.set 0 _
    have hns : NumS WE w.heap.size (w.heap.size + 1) 0 #[.slice a0 n0 q0, .slice a1 n1 q1, .slice a2 n2 q2] 69 sl (numL (upX Z.1)) := ⟨g1, HI.out.2.2.at_, fun l hl => by rw [hWE]; exact own_setT (own_setT (own_setT (own_setT (HI.out.2.2.row l hl) k1 (by decide)) s1 (by decide)) s2 (by decide)) r2 (by decide), HI.out.2.2.apart⟩
    have hD : WE.heap[WL.heap.size]? = some (.deferred (some [])) := by rw [hWE]; exact (KeepsOthers.setCell _ _ _).same _ _ ((KeepsOthers.setCell _ _ _).same _ _ ((KeepsOthers.setCell _ _ _).same _ _ ((KeepsOthers.setCell _ _ _).same _ _ HI.out.2.1 rfl) rfl) rfl) rfl
    have hbE : Below w.heap.size w WE := by
      rw [hWE]
      exact (((HI.out.1.old.setCell (p := ⟨w.heap.size + 1, 0, none⟩) (by show w.heap.size ≤ w.heap.size + 1; omega) _).setCell (p := ⟨w.heap.size + 1, 1, none⟩) (by show w.heap.size ≤ w.heap.size + 1; omega) _).setCell (p := ⟨w.heap.size + 1, 2, none⟩) (by show w.heap.size ≤ w.heap.size + 1; omega) _).setCell (p := ⟨w.heap.size + 1 + 1, 0, none⟩) (by show w.heap.size ≤ w.heap.size + 1 + 1; omega) _
    refine ⟨by simp, .inl ⟨_, _, rfl, run_takeDeferred hD, ?_⟩⟩
    refine ⟨_, results_nums rfl _ _ (w.heap.size + 1) (w.heap.size + 1 + 1) _ _ rfl rfl (blk_put _ g1 hD rfl) rfl (blk_put _ g2 hD rfl), _, _, rfl, rfl, .inl ⟨hZ1, rfl, w.heap.size + 1, sl, ?_⟩, ?_⟩
    · exact hns.abide (z := 0) (grownBy_putObj' _ _ _) (fun r e => by cases e; exact ⟨Nat.zero_le _, _, hD, rfl⟩)
    · exact hbE.trans (belowK_b (w := w) (Nat.le_refl _) WE WL.heap.size _ (.deferred none) (by omega) hD rfl rfl)
  case stop =>
    rintro c pre Wx _ ⟨rfl, hZ2, ⟨v, h3, h4, n, h5⟩, h6⟩ hK
    have HI := hide (And.intro hZ2 (And.intro h3 (And.intro h4 (And.intro h5 (And.intro h6 hK)))))
    clear hZ2 h3 h4 h5 h6 hK
    gi_wp2
    have hD := HI.out.2.2.2.2.2
    refine ⟨by simp, .inl ⟨_, _, rfl, run_takeDeferred hD, ?_⟩⟩
    refine ⟨_, results_nums rfl _ _ (w.heap.size + 1) (w.heap.size + 1 + 1) _ _ rfl rfl (blk_put _ HI.out.2.1 hD rfl) rfl (blk_put _ HI.out.2.2.1 hD rfl), _, _, rfl, rfl, .inr ⟨HI.out.1, n, ?_⟩, ?_⟩
    · exact flt_abide (z := 0) HI.out.2.2.2.1 (grownBy_putObj' _ _ _) (fun r e => by cases e; exact ⟨Nat.zero_le _, _, hD, rfl⟩)
    · exact HI.out.2.2.2.2.1.trans (belowK_b (w := w) (Nat.le_refl _) Wx WL.heap.size _ (.deferred none) (by omega) hD rfl rfl)
end Go.Proofs.YtnfgldglpfgmnaaDoor
