/- EncodeFsinfo of the model. -/
import Derived.Test.YtkbbnflblkkepaaGreatDoorZm38
import Derived.Test.YtkbbnflblkkepaaGreatDoorZm40
namespace Go.Proofs.YtkbbnflblkkepaaGreatDoor
set_option linter.unusedVariables false
set_option linter.unusedSimpArgs false
open Go.RowKit

theorem freeze_own {w : World} {base : Nat} {e : TypeId} {v : Value} {xs : List Value} {C : Array Value} {t : TypeId} {n : Nat} (h : w.ownsRow base e 1 v n xs) (g k : Nat) (hg : ∃ fr, w.heap[g]? = some (.cells C t fr)) (hn : C.size < n) : (w.freeze ⟨g, k, none⟩ 1).ownsRow base e 1 v n xs := by
  refine ⟨h.1, ?_⟩
  rcases h.2 with h | ⟨g', cap, cur, rfl, hb, hg', h1, h2, h3, h4⟩
  · exact .inl h
  · refine .inr ⟨g', cap, cur, rfl, hb, ?_, h1, h2, h3, h4⟩
    have hne : g ≠ g' := by
      rintro rfl
      obtain ⟨fr, hg⟩ := hg
      rw [hg] at hg'
      injection hg' with hg'
      injection hg' with hg' _ _
      subst hg'
      omega
    unfold World.freeze
    rw [if_neg (by decide)]
    simp only [Array.getElem?_modify]
    rw [if_neg hne]
    exact hg'
/-- What the values of the region are. -/
def VF (B b gen bl cu ck op ev lg : Nat) (s1 : Int) (ds1 : List Int) (p1 q1 s2 : Int) (ds2 : List Int) (p2 q2 : Int) (i : Nat) (v : Value) (w : World) : Prop := match i with
  | 0 => ∃ g, v = .slice (some ⟨g, 0, none⟩) 8 8 ∧ B ≤ g ∧ g < w.heap.size ∧ Rd .u8 w v fsLet ∧ ∃ fr, w.heap[g]? = some (.cells #[.int .u8 114, .int .u8 111, .int .u8 111, .int .u8 116, .int .u8 114, .int .u8 101, .int .u8 99, .int .u8 49] 5 fr)
  | 1 => Sl 8 fsLet v w
  | 2 => v = .pointer (some ⟨b, 0, none⟩)
  | 3 => v = .int .i64 (gen : Int)
  | 4 => Sl 8 (le 8 gen) v w
  | 5 => v = .pointer (some ⟨b, 1, none⟩)
  | 6 => v = .int .i64 (bl : Int)
  | 7 => Sl 4 (le 4 bl) v w
  | 8 => v = .pointer (some ⟨b, 2, none⟩)
  | 9 => v = .int .i64 (cu : Int)
  | 10 => Sl 4 (le 4 cu) v w
  | 11 => v = .pointer (some ⟨b, 3, none⟩)
  | 12 => v = .int .i64 (ck : Int)
  | 13 => Sl 8 (le 8 ck) v w
  | 14 => v = .pointer (some ⟨b, 4, none⟩)
  | 15 => v = .int .i64 (op : Int)
  | 16 => Sl 8 (le 8 op) v w
  | 17 => v = .pointer (some ⟨b, 5, none⟩)
  | 18 => v = .int .i64 (ev : Int)
  | 19 => Sl 4 (le 4 ev) v w
  | 20 => v = .pointer (some ⟨b, 6, none⟩)
  | 21 => v = .int .i64 (lg : Int)
  | 22 => Sl 4 (le 4 lg) v w
  | 23 => v = .pointer (some ⟨b, 7, none⟩)
  | 24 => v = .agg (cellsI (rootI s1 ds1 p1 q1))
  | 25 => Sl 64 (bytesR s1 ds1 p1 q1) v w
  | 26 => v = .pointer (some ⟨b, 22, none⟩)
  | 27 => v = .agg (cellsI (rootI s2 ds2 p2 q2))
  | 28 => Sl 64 (bytesR s2 ds2 p2 q2) v w
  | 29 => ∃ g, v = .slice (some ⟨g, 0, none⟩) 10 10 ∧ g < w.heap.size ∧ ∃ vs, (∀ j u, vs[j]? = some u → w.cell? ⟨g, j, none⟩ = some u) ∧ AllRd w vs [fsLet, le 8 gen, le 4 bl, le 4 cu, le 8 ck, le 8 op, le 4 ev, le 4 lg, bytesR s1 ds1 p1 q1, bytesR s2 ds2 p2 q2]
  | 30 => w.ownsRow B 5 1 v 176 ((headF gen bl cu ck op ev lg s1 ds1 p1 q1 s2 ds2 p2 q2).map (Value.int .u8))
  | 31 => w.ownsRow B 5 1 v 176 ((headF gen bl cu ck op ev lg s1 ds1 p1 q1 s2 ds2 p2 q2).map (Value.int .u8))
  | _ => False
theorem VF.below {B b gen bl cu ck op ev lg : Nat} {s1 : Int} {ds1 : List Int} {p1 q1 s2 : Int} {ds2 : List Int} {p2 q2 : Int} {w w' : World} (hb : Below w.heap.size w w') : ∀ (j : Nat) (u : Value), VF B b gen bl cu ck op ev lg s1 ds1 p1 q1 s2 ds2 p2 q2 j u w → VF B b gen bl cu ck op ev lg s1 ds1 p1 q1 s2 ds2 p2 q2 j u w'
  | 0, _, ⟨g, h1, h2, h3, h4, h5⟩ => ⟨g, h1, h2, Nat.lt_of_lt_of_le h3 hb.size, h4.below hb, by rw [hb.block g h3]; exact h5⟩
  | 1, _, h => Sl.below h hb
  | 2, _, h => h
  | 3, _, h => h
  | 4, _, h => Sl.below h hb
  | 5, _, h => h
  | 6, _, h => h
  | 7, _, h => Sl.below h hb
  | 8, _, h => h
  | 9, _, h => h
  | 10, _, h => Sl.below h hb
  | 11, _, h => h
  | 12, _, h => h
  | 13, _, h => Sl.below h hb
  | 14, _, h => h
  | 15, _, h => h
  | 16, _, h => Sl.below h hb
  | 17, _, h => h
  | 18, _, h => h
  | 19, _, h => Sl.below h hb
  | 20, _, h => h
  | 21, _, h => h
  | 22, _, h => Sl.below h hb
  | 23, _, h => h
  | 24, _, h => h
  | 25, _, h => Sl.below h hb
  | 26, _, h => h
  | 27, _, h => h
  | 28, _, h => Sl.below h hb
  | 29, _, ⟨g, h1, h2, vs, h3, h4⟩ => ⟨g, h1, Nat.lt_of_lt_of_le h2 hb.size, vs, fun j u hu => (hb.cell (p := ⟨g, j, none⟩) h2).trans (h3 j u hu), h4.below hb⟩
  | 30, _, h => own_below h hb
  | 31, _, h => own_below h hb
  | _ + 32, _, h => h
theorem VF.freeze {B b gen bl cu ck op ev lg : Nat} {s1 : Int} {ds1 : List Int} {p1 q1 s2 : Int} {ds2 : List Int} {p2 q2 : Int} {w : World} (g' m : Nat) (hg : ∃ fr, w.heap[g']? = some (.cells #[.int .u8 114, .int .u8 111, .int .u8 111, .int .u8 116, .int .u8 114, .int .u8 101, .int .u8 99, .int .u8 49] 5 fr)) : ∀ (j : Nat) (u : Value), VF B b gen bl cu ck op ev lg s1 ds1 p1 q1 s2 ds2 p2 q2 j u w → VF B b gen bl cu ck op ev lg s1 ds1 p1 q1 s2 ds2 p2 q2 j u (w.freeze ⟨g', m, none⟩ 1)
  | 0, _, ⟨g, h1, h2, h3, h4, h5⟩ => ⟨g, h1, h2, by rw [freeze_size]; exact h3, h4.freeze g' m, freeze_row w g' m h5⟩
  | 1, _, h => ⟨h.1, h.2.freeze g' m⟩
  | 2, _, h => h
  | 3, _, h => h
  | 4, _, h => ⟨h.1, h.2.freeze g' m⟩
  | 5, _, h => h
  | 6, _, h => h
  | 7, _, h => ⟨h.1, h.2.freeze g' m⟩
  | 8, _, h => h
  | 9, _, h => h
  | 10, _, h => ⟨h.1, h.2.freeze g' m⟩
  | 11, _, h => h
  | 12, _, h => h
  | 13, _, h => ⟨h.1, h.2.freeze g' m⟩
  | 14, _, h => h
  | 15, _, h => h
  | 16, _, h => ⟨h.1, h.2.freeze g' m⟩
  | 17, _, h => h
  | 18, _, h => h
  | 19, _, h => ⟨h.1, h.2.freeze g' m⟩
  | 20, _, h => h
  | 21, _, h => h
  | 22, _, h => ⟨h.1, h.2.freeze g' m⟩
  | 23, _, h => h
  | 24, _, h => h
  | 25, _, h => ⟨h.1, h.2.freeze g' m⟩
  | 26, _, h => h
  | 27, _, h => h
  | 28, _, h => ⟨h.1, h.2.freeze g' m⟩
  | 29, _, ⟨g, h1, h2, vs, h3, h4⟩ => ⟨g, h1, by rw [freeze_size]; exact h2, vs, fun j u hu => by rw [freeze_cell]; exact h3 j u hu, h4.freeze g' m⟩
  | 30, _, h => freeze_own h g' m hg (by simp)
  | 31, _, h => freeze_own h g' m hg (by simp)
  | _ + 32, _, h => h
theorem head_flat (gen bl cu ck op ev lg : Nat) (s1 : Int) (ds1 : List Int) (p1 q1 s2 : Int) (ds2 : List Int) (p2 q2 : Int) : ([fsLet, le 8 gen, le 4 bl, le 4 cu, le 8 ck, le 8 op, le 4 ev, le 4 lg, bytesR s1 ds1 p1 q1, bytesR s2 ds2 p2 q2] : List (List Int)).flatten = (headF gen bl cu ck op ev lg s1 ds1 p1 q1 s2 ds2 p2 q2) := by
  simp [headF, List.append_assoc]

theorem tmps53 (a : Array Value) (h : a.size = 53) : a = #[a.getD 0 undef, a.getD 1 undef, a.getD 2 undef, a.getD 3 undef, a.getD 4 undef, a.getD 5 undef, a.getD 6 undef, a.getD 7 undef, a.getD 8 undef, a.getD 9 undef, a.getD 10 undef, a.getD 11 undef, a.getD 12 undef, a.getD 13 undef, a.getD 14 undef, a.getD 15 undef, a.getD 16 undef, a.getD 17 undef, a.getD 18 undef, a.getD 19 undef, a.getD 20 undef, a.getD 21 undef, a.getD 22 undef, a.getD 23 undef, a.getD 24 undef, a.getD 25 undef, a.getD 26 undef, a.getD 27 undef, a.getD 28 undef, a.getD 29 undef, a.getD 30 undef, a.getD 31 undef, a.getD 32 undef, a.getD 33 undef, a.getD 34 undef, a.getD 35 undef, a.getD 36 undef, a.getD 37 undef, a.getD 38 undef, a.getD 39 undef, a.getD 40 undef, a.getD 41 undef, a.getD 42 undef, a.getD 43 undef, a.getD 44 undef, a.getD 45 undef, a.getD 46 undef, a.getD 47 undef, a.getD 48 undef, a.getD 49 undef, a.getD 50 undef, a.getD 51 undef, a.getD 52 undef] := by
  have e : a = ((List.range 53).map fun i => a.getD i undef).toArray := Array.ext (by simp [h]) (fun i h1 h2 => by simp [Array.getD, h1])
  exact e

set_option maxRecDepth 100000 in
set_option maxHeartbeats 1000000 in
theorem specFs_false (gen bl cu ck op ev lg s1 : Int) (ds1 : List Int) (p1 q1 s2 : Int) (ds2 : List Int) (p2 q2 : Int) (sn : List Int) (w : World) (hd1 : ds1.length = 12) (hd2 : ds2.length = 12) (hsn : sn.length = 31) (hr : rightF gen bl cu ck op ev lg s1 ds1 p1 q1 s2 ds2 p2 q2 sn = false) :
    Calls Tryz.prog 32 #[.agg (cellsI (fsI gen bl cu ck op ev lg s1 ds1 p1 q1 s2 ds2 p2 q2 sn))] w fun e w' => e = .returned (.tuple #[.slice none 0 0, .int .i64 7]) ∧ Below w.heap.size w w' := by
  have HR := hide hr
  have HZ := hide (show (cellsI (fsI gen bl cu ck op ev lg s1 ds1 p1 q1 s2 ds2 p2 q2 sn)).size = 68 from by rw [cellsI_size]; exact fsI_len _ _ _ _ _ _ _ _ _ _ _ _ _ _ _ _ hd1 hd2 hsn)
  have HC := hide (fun w => l02Fs_any gen bl cu ck op ev lg s1 ds1 p1 q1 s2 ds2 p2 q2 sn w hd1 hd2 hsn)
  have K0 := hide (And.intro (Blk.new w (cellsI (fsI gen bl cu ck op ev lg s1 ds1 p1 q1 s2 ds2 p2 q2 sn)) 37) (show Below w.heap.size w (w.alloc (.cells (cellsI (fsI gen bl cu ck op ev lg s1 ds1 p1 q1 s2 ds2 p2 q2 sn)) 37)) from (Below.refl _ _).alloc (Nat.le_refl _) _))
  clear hd1 hd2 hsn hr
  go_enter Tryz.func32, Tryz.ntmps32
  go_wp2_with (first | (refine wpList_load_row rfl 37 _ rfl w.heap.size rfl 37 (cellsI (fsI gen bl cu ck op ev lg s1 ds1 p1 q1 s2 ds2 p2 q2 sn)) (0, 0) _ K0.out.1 Tryz.underlying37 rfl (by rw [HZ.out]; exact info68) ?_) | (go_at_call 52; fail))
  refine (HC.out _).mono ?_
  rintro e w1 ⟨rfl, b1⟩
  have B1 := hide (K0.out.2.trans (b1.mono K0.out.2.size))
  rw [HR.out]
  clear b1
  go_wp2
  go_ret2
  exact ⟨rfl, B1.out⟩
set_option maxRecDepth 100000 in
set_option maxHeartbeats 2000000 in
theorem specFs_true (gen bl cu ck op ev lg : Nat) (s1 : Int) (ds1 : List Int) (p1 q1 s2 : Int) (ds2 : List Int) (p2 q2 : Int) (sn : List Int) (w : World) (hd1 : ds1.length = 12) (hd2 : ds2.length = 12) (hsn : sn.length = 31) (hB : FsBd (gen : Int) (bl : Int) (cu : Int) (ck : Int) (op : Int) (ev : Int) (lg : Int) s1 ds1 p1 q1 s2 ds2 p2 q2 sn) (hr : rightF (gen : Int) (bl : Int) (cu : Int) (ck : Int) (op : Int) (ev : Int) (lg : Int) s1 ds1 p1 q1 s2 ds2 p2 q2 sn = true) :
    Calls Tryz.prog 32 #[.agg (cellsI (fsI (gen : Int) (bl : Int) (cu : Int) (ck : Int) (op : Int) (ev : Int) (lg : Int) s1 ds1 p1 q1 s2 ds2 p2 q2 sn))] w fun e w' => ∃ v', e = .returned (.tuple #[v', .int .i64 0]) ∧ w'.ownsRow w.heap.size 5 1 v' 512 ((sealed (bytesF gen bl cu ck op ev lg s1 ds1 p1 q1 s2 ds2 p2 q2 sn)).map (Value.int .u8)) ∧ Below w.heap.size w w' := by
  obtain ⟨i0, hi0, hz0, hz1, hz2⟩ := info_parts infoU8
  have HR := hide hr
  have HD := hide (And.intro hd1 (And.intro hd2 hsn))
  have HBd := hide hB
  have HLen1 := hide (show (cellsI (rootI s1 ds1 p1 q1)).size = 15 from by rw [cellsI_size]; exact rootI_len _ _ _ _ HD.out.1)
  have HLen2 := hide (show (cellsI (rootI s2 ds2 p2 q2)).size = 15 from by rw [cellsI_size]; exact rootI_len _ _ _ _ HD.out.2.1)
  have HZ := hide (show (cellsI (fsI (gen : Int) (bl : Int) (cu : Int) (ck : Int) (op : Int) (ev : Int) (lg : Int) s1 ds1 p1 q1 s2 ds2 p2 q2 sn)).size = 68 from by rw [cellsI_size]; exact fsI_len _ _ _ _ _ _ _ _ _ _ _ _ _ _ _ _ hd1 hd2 hsn)
  have HC := hide (fun w => l02Fs_any (gen : Int) (bl : Int) (cu : Int) (ck : Int) (op : Int) (ev : Int) (lg : Int) s1 ds1 p1 q1 s2 ds2 p2 q2 sn w hd1 hd2 hsn)
  have HX := hide (fun k hk w => index31 sn k HD.out.2.2 hk w)
  have a0 : gen < 281474976710656 := by have := hB.g0; omega
  have a1 : bl < 2049 := by have := hB.g1; omega
  have a2 : cu < 2049 := by have := hB.g2; omega
  have a3 : ck < 281474976710656 := by have := hB.g3; omega
  have a4 : op < 281474976710656 := by have := hB.g4; omega
  have a5 : ev < 2049 := by have := hB.g5; omega
  have a6 : lg < 65537 := by have := hB.g6; omega
  have K0 := hide (And.intro (Blk.new w (cellsI (fsI (gen : Int) (bl : Int) (cu : Int) (ck : Int) (op : Int) (ev : Int) (lg : Int) s1 ds1 p1 q1 s2 ds2 p2 q2 sn)) 37) (show Below w.heap.size w (w.alloc (.cells (cellsI (fsI (gen : Int) (bl : Int) (cu : Int) (ck : Int) (op : Int) (ev : Int) (lg : Int) s1 ds1 p1 q1 s2 ds2 p2 q2 sn)) 37)) from (Below.refl _ _).alloc (Nat.le_refl _) _))
  clear hd1 hd2 hsn hr hB
  go_enter Tryz.func32, Tryz.ntmps32
  go_wp2_with (first | (refine wpList_load_row rfl 37 _ rfl w.heap.size rfl 37 (cellsI (fsI (gen : Int) (bl : Int) (cu : Int) (ck : Int) (op : Int) (ev : Int) (lg : Int) s1 ds1 p1 q1 s2 ds2 p2 q2 sn)) (0, 0) _ K0.out.1 Tryz.underlying37 rfl (by rw [HZ.out]; exact info68) ?_) | (go_at_call 52; fail))
  refine (HC.out _).mono ?_
  rintro e W ⟨rfl, b1⟩
  have B2 := hide (K0.out.2.trans (b1.mono K0.out.2.size))
  have KW := hide (K0.out.1.below b1 K0.out.1.lt)
  rw [HR.out]
  clear b1 K0
  go_wp2
  have hlw : w.heap.size < W.heap.size := KW.out.lt
  have HCell := hide (show ∀ w', Below W.heap.size W w' → Blk w' w.heap.size (cellsI (fsI (gen : Int) (bl : Int) (cu : Int) (ck : Int) (op : Int) (ev : Int) (lg : Int) s1 ds1 p1 q1 s2 ds2 p2 q2 sn)) 37 from fun w' h => KW.out.below h KW.out.lt)
  have HFl := hide (head_flat gen bl cu ck op ev lg s1 ds1 p1 q1 s2 ds2 p2 q2)
  have HHL := hide (headF_len gen bl cu ck op ev lg s1 ds1 p1 q1 s2 ds2 p2 q2 HD.out.1 HD.out.2.1)
  have HPos := hide (show (∀ z ∈ ([fsLet, le 8 gen, le 4 bl, le 4 cu, le 8 ck, le 8 op, le 4 ev, le 4 lg, bytesR s1 ds1 p1 q1, bytesR s2 ds2 p2 q2] : List (List Int)), 0 < z.length) ∧ ([fsLet, le 8 gen, le 4 bl, le 4 cu, le 8 ck, le 8 op, le 4 ev, le 4 lg, bytesR s1 ds1 p1 q1, bytesR s2 ds2 p2 q2] : List (List Int)).flatten.length ≤ 100000 from by
    constructor
    · intro z hz
      simp only [List.mem_cons, List.not_mem_nil, or_false] at hz
      rcases hz with rfl | rfl | rfl | rfl | rfl | rfl | rfl | rfl | rfl | rfl
      · decide
      · rw [le_len]; omega
      · rw [le_len]; omega
      · rw [le_len]; omega
      · rw [le_len]; omega
      · rw [le_len]; omega
      · rw [le_len]; omega
      · rw [le_len]; omega
      · rw [bytesR_len _ _ _ _ HD.out.1]; omega
      · rw [bytesR_len _ _ _ _ HD.out.2.1]; omega
    · rw [HFl.out, HHL.out]; omega)
  refine wp_region_noPanic ?_
  refine wp_region_any (by kernel_rfl) ?_
  refine wpAny_invB [(1, .pointer (some ⟨w.heap.size, 0, none⟩))] (fun w' => Below W.heap.size W w') (VF W.heap.size w.heap.size gen bl cu ck op ev lg s1 ds1 p1 q1 s2 ds2 p2 q2) 53 [] (by kernel_rfl) ?hstep ?hfin _ _ (by rfl) (by rfl) ((Below.refl _ _).drew) (by intro t v h; simp at h; obtain ⟨rfl, rfl⟩ := h; rfl)
  case hstep =>
    intro i o listed ac wz hi hall hI
    have f1 : ac.tmps.getD 1 undef = .pointer (some ⟨w.heap.size, 0, none⟩) := hI.fix 1 _ (by simp)
    match i, hi with
    | 0, hi =>
      obtain rfl := Option.some.inj hi
      have hBs := hI.held.size
      refine ⟨by rfl, ?_⟩
      go_simp
      have bN := (Below.refl wz.heap.size wz).alloc (Nat.le_refl _) (.cells #[.int .u8 114, .int .u8 111, .int .u8 111, .int .u8 116, .int .u8 114, .int .u8 101, .int .u8 99, .int .u8 49] 5)
      have HV := hide (show VF W.heap.size w.heap.size gen bl cu ck op ev lg s1 ds1 p1 q1 s2 ds2 p2 q2 0 (.slice (some ⟨wz.heap.size, 0, none⟩) 8 8) (wz.alloc (.cells #[.int .u8 114, .int .u8 111, .int .u8 111, .int .u8 116, .int .u8 114, .int .u8 101, .int .u8 99, .int .u8 49] 5)) from ⟨wz.heap.size, rfl, hBs, by simp, Rd.own (World.ownsRow_lit (base := wz.heap.size) (e := 5) (size := 1) wz #[.int .u8 114, .int .u8 111, .int .u8 111, .int .u8 116, .int .u8 114, .int .u8 101, .int .u8 99, .int .u8 49] 8 (Nat.le_refl _) (by unfold maxLen; omega) rfl), (0, 0), heap_alloc_new wz _⟩)
      exact ⟨_, rfl, HV.out, hI.held.trans (bN.mono hI.held.size), VF.below bN⟩
    | 1, hi =>
      obtain rfl := Option.some.inj hi
      obtain ⟨gx, ex, hgx, hgl, v0, hfr⟩ : VF W.heap.size w.heap.size gen bl cu ck op ev lg s1 ds1 p1 q1 s2 ds2 p2 q2 0 (ac.tmps.getD 10 undef) wz := hI.at hall 0 10 rfl rfl (by rfl)
      rw [ex] at v0
      refine ⟨by rfl, wp_mark 22 5 (.tmp 10) rfl gx 8 8 ex hfr Tryz.underlying22 Tryz.underlying5 ?_⟩
      exact ⟨_, rfl, ⟨⟨_, _, rfl⟩, v0.freeze gx _⟩, freeze_below hI.held gx _ hgx, VF.freeze gx _ hfr⟩
    | 2, hi =>
      obtain rfl := Option.some.inj hi
      refine ⟨by rfl, ?_⟩
      go_simp
      exact ⟨_, rfl, rfl, hI.held⟩
    | 3, hi =>
      obtain rfl := Option.some.inj hi
      have va : ac.tmps.getD 12 undef = .pointer (some ⟨w.heap.size, 0, none⟩) := hI.at hall 2 12 rfl rfl (by rfl)
      have hc := ((HCell.out wz hI.held).cell 0).trans (show (cellsI (fsI (gen : Int) (bl : Int) (cu : Int) (ck : Int) (op : Int) (ev : Int) (lg : Int) s1 ds1 p1 q1 s2 ds2 p2 q2 sn))[0]? = some (.int .i64 (gen : Int)) from rfl)
      refine ⟨by rfl, ?_⟩
      go_simp
      exact ⟨_, rfl, rfl, hI.held⟩
    | 4, hi =>
      obtain rfl := Option.some.inj hi
      have vb : ac.tmps.getD 13 undef = .int .i64 (gen : Int) := hI.at hall 3 13 rfl rfl (by rfl)
      refine ⟨by rfl, ?_⟩
      go_simp
      refine (put_pos gen 8 _ (by omega) (by omega) (by omega)).mono ?_
      rintro e w' ⟨gN, cN, rfl, oN, bN⟩
      exact ⟨_, rfl, ⟨⟨_, _, rfl⟩, Rd.own oN⟩, hI.held.trans (bN.mono hI.held.size), VF.below bN⟩
    | 5, hi =>
      obtain rfl := Option.some.inj hi
      refine ⟨by rfl, ?_⟩
      go_simp
      exact ⟨_, rfl, rfl, hI.held⟩
    | 6, hi =>
      obtain rfl := Option.some.inj hi
      have va : ac.tmps.getD 15 undef = .pointer (some ⟨w.heap.size, 1, none⟩) := hI.at hall 5 15 rfl rfl (by rfl)
      have hc := ((HCell.out wz hI.held).cell 1).trans (show (cellsI (fsI (gen : Int) (bl : Int) (cu : Int) (ck : Int) (op : Int) (ev : Int) (lg : Int) s1 ds1 p1 q1 s2 ds2 p2 q2 sn))[1]? = some (.int .i64 (bl : Int)) from rfl)
      refine ⟨by rfl, ?_⟩
      go_simp
      exact ⟨_, rfl, rfl, hI.held⟩
    | 7, hi =>
      obtain rfl := Option.some.inj hi
      have vb : ac.tmps.getD 16 undef = .int .i64 (bl : Int) := hI.at hall 6 16 rfl rfl (by rfl)
      refine ⟨by rfl, ?_⟩
      go_simp
      refine (put_pos bl 4 _ (by omega) (by omega) (by omega)).mono ?_
      rintro e w' ⟨gN, cN, rfl, oN, bN⟩
      exact ⟨_, rfl, ⟨⟨_, _, rfl⟩, Rd.own oN⟩, hI.held.trans (bN.mono hI.held.size), VF.below bN⟩
    | 8, hi =>
      obtain rfl := Option.some.inj hi
      refine ⟨by rfl, ?_⟩
      go_simp
      exact ⟨_, rfl, rfl, hI.held⟩
    | 9, hi =>
      obtain rfl := Option.some.inj hi
      have va : ac.tmps.getD 18 undef = .pointer (some ⟨w.heap.size, 2, none⟩) := hI.at hall 8 18 rfl rfl (by rfl)
      have hc := ((HCell.out wz hI.held).cell 2).trans (show (cellsI (fsI (gen : Int) (bl : Int) (cu : Int) (ck : Int) (op : Int) (ev : Int) (lg : Int) s1 ds1 p1 q1 s2 ds2 p2 q2 sn))[2]? = some (.int .i64 (cu : Int)) from rfl)
      refine ⟨by rfl, ?_⟩
      go_simp
      exact ⟨_, rfl, rfl, hI.held⟩
    | 10, hi =>
      obtain rfl := Option.some.inj hi
      have vb : ac.tmps.getD 19 undef = .int .i64 (cu : Int) := hI.at hall 9 19 rfl rfl (by rfl)
      refine ⟨by rfl, ?_⟩
      go_simp
      refine (put_pos cu 4 _ (by omega) (by omega) (by omega)).mono ?_
      rintro e w' ⟨gN, cN, rfl, oN, bN⟩
      exact ⟨_, rfl, ⟨⟨_, _, rfl⟩, Rd.own oN⟩, hI.held.trans (bN.mono hI.held.size), VF.below bN⟩
    | 11, hi =>
      obtain rfl := Option.some.inj hi
      refine ⟨by rfl, ?_⟩
      go_simp
      exact ⟨_, rfl, rfl, hI.held⟩
    | 12, hi =>
      obtain rfl := Option.some.inj hi
      have va : ac.tmps.getD 21 undef = .pointer (some ⟨w.heap.size, 3, none⟩) := hI.at hall 11 21 rfl rfl (by rfl)
      have hc := ((HCell.out wz hI.held).cell 3).trans (show (cellsI (fsI (gen : Int) (bl : Int) (cu : Int) (ck : Int) (op : Int) (ev : Int) (lg : Int) s1 ds1 p1 q1 s2 ds2 p2 q2 sn))[3]? = some (.int .i64 (ck : Int)) from rfl)
      refine ⟨by rfl, ?_⟩
      go_simp
      exact ⟨_, rfl, rfl, hI.held⟩
    | 13, hi =>
      obtain rfl := Option.some.inj hi
      have vb : ac.tmps.getD 22 undef = .int .i64 (ck : Int) := hI.at hall 12 22 rfl rfl (by rfl)
      refine ⟨by rfl, ?_⟩
      go_simp
      refine (put_pos ck 8 _ (by omega) (by omega) (by omega)).mono ?_
      rintro e w' ⟨gN, cN, rfl, oN, bN⟩
      exact ⟨_, rfl, ⟨⟨_, _, rfl⟩, Rd.own oN⟩, hI.held.trans (bN.mono hI.held.size), VF.below bN⟩
    | 14, hi =>
      obtain rfl := Option.some.inj hi
      refine ⟨by rfl, ?_⟩
      go_simp
      exact ⟨_, rfl, rfl, hI.held⟩
    | 15, hi =>
      obtain rfl := Option.some.inj hi
      have va : ac.tmps.getD 24 undef = .pointer (some ⟨w.heap.size, 4, none⟩) := hI.at hall 14 24 rfl rfl (by rfl)
      have hc := ((HCell.out wz hI.held).cell 4).trans (show (cellsI (fsI (gen : Int) (bl : Int) (cu : Int) (ck : Int) (op : Int) (ev : Int) (lg : Int) s1 ds1 p1 q1 s2 ds2 p2 q2 sn))[4]? = some (.int .i64 (op : Int)) from rfl)
      refine ⟨by rfl, ?_⟩
      go_simp
      exact ⟨_, rfl, rfl, hI.held⟩
    | 16, hi =>
      obtain rfl := Option.some.inj hi
      have vb : ac.tmps.getD 25 undef = .int .i64 (op : Int) := hI.at hall 15 25 rfl rfl (by rfl)
      refine ⟨by rfl, ?_⟩
      go_simp
      refine (put_pos op 8 _ (by omega) (by omega) (by omega)).mono ?_
      rintro e w' ⟨gN, cN, rfl, oN, bN⟩
      exact ⟨_, rfl, ⟨⟨_, _, rfl⟩, Rd.own oN⟩, hI.held.trans (bN.mono hI.held.size), VF.below bN⟩
    | 17, hi =>
      obtain rfl := Option.some.inj hi
      refine ⟨by rfl, ?_⟩
      go_simp
      exact ⟨_, rfl, rfl, hI.held⟩
    | 18, hi =>
      obtain rfl := Option.some.inj hi
      have va : ac.tmps.getD 27 undef = .pointer (some ⟨w.heap.size, 5, none⟩) := hI.at hall 17 27 rfl rfl (by rfl)
      have hc := ((HCell.out wz hI.held).cell 5).trans (show (cellsI (fsI (gen : Int) (bl : Int) (cu : Int) (ck : Int) (op : Int) (ev : Int) (lg : Int) s1 ds1 p1 q1 s2 ds2 p2 q2 sn))[5]? = some (.int .i64 (ev : Int)) from rfl)
      refine ⟨by rfl, ?_⟩
      go_simp
      exact ⟨_, rfl, rfl, hI.held⟩
    | 19, hi =>
      obtain rfl := Option.some.inj hi
      have vb : ac.tmps.getD 28 undef = .int .i64 (ev : Int) := hI.at hall 18 28 rfl rfl (by rfl)
      refine ⟨by rfl, ?_⟩
      go_simp
      refine (put_pos ev 4 _ (by omega) (by omega) (by omega)).mono ?_
      rintro e w' ⟨gN, cN, rfl, oN, bN⟩
      exact ⟨_, rfl, ⟨⟨_, _, rfl⟩, Rd.own oN⟩, hI.held.trans (bN.mono hI.held.size), VF.below bN⟩
    | 20, hi =>
      obtain rfl := Option.some.inj hi
      refine ⟨by rfl, ?_⟩
      go_simp
      exact ⟨_, rfl, rfl, hI.held⟩
    | 21, hi =>
      obtain rfl := Option.some.inj hi
      have va : ac.tmps.getD 30 undef = .pointer (some ⟨w.heap.size, 6, none⟩) := hI.at hall 20 30 rfl rfl (by rfl)
      have hc := ((HCell.out wz hI.held).cell 6).trans (show (cellsI (fsI (gen : Int) (bl : Int) (cu : Int) (ck : Int) (op : Int) (ev : Int) (lg : Int) s1 ds1 p1 q1 s2 ds2 p2 q2 sn))[6]? = some (.int .i64 (lg : Int)) from rfl)
      refine ⟨by rfl, ?_⟩
      go_simp
      exact ⟨_, rfl, rfl, hI.held⟩
    | 22, hi =>
      obtain rfl := Option.some.inj hi
      have vb : ac.tmps.getD 31 undef = .int .i64 (lg : Int) := hI.at hall 21 31 rfl rfl (by rfl)
      refine ⟨by rfl, ?_⟩
      go_simp
      refine (put_pos lg 4 _ (by omega) (by omega) (by omega)).mono ?_
      rintro e w' ⟨gN, cN, rfl, oN, bN⟩
      exact ⟨_, rfl, ⟨⟨_, _, rfl⟩, Rd.own oN⟩, hI.held.trans (bN.mono hI.held.size), VF.below bN⟩
    | 23, hi =>
      obtain rfl := Option.some.inj hi
      refine ⟨by rfl, ?_⟩
      go_simp
      exact ⟨_, rfl, rfl, hI.held⟩
    | 24, hi =>
      obtain rfl := Option.some.inj hi
      have va : ac.tmps.getD 33 undef = .pointer (some ⟨w.heap.size, 7, none⟩) := hI.at hall 23 33 rfl rfl (by rfl)
      refine ⟨by rfl, wp_load_mid 34 (.tmp 33) rfl w.heap.size 7 va ((rootI s1 ds1 p1 q1).map (Value.int .i64)) _ (fs_range1 (gen : Int) (bl : Int) (cu : Int) (ck : Int) (op : Int) (ev : Int) (lg : Int) s1 ds1 p1 q1 s2 ds2 p2 q2 sn HD.out.1 (HCell.out wz hI.held)) Tryz.underlying34 rfl (by rw [List.length_map, ← cellsI_size, HLen1.out]; exact info15) ?_⟩
      exact ⟨_, rfl, rfl, hI.held, fun _ _ h => h⟩
    | 25, hi =>
      obtain rfl := Option.some.inj hi
      have vb : ac.tmps.getD 34 undef = .agg (cellsI (rootI s1 ds1 p1 q1)) := hI.at hall 24 34 rfl rfl (by rfl)
      refine ⟨by rfl, ?_⟩
      go_simp
      refine (rootBytes_pos s1 ds1 p1 q1 _ HD.out.1 HBd.out.r1 HBd.out.q1).mono ?_
      rintro e w' ⟨gN, cN, rfl, oN, bN⟩
      exact ⟨_, rfl, ⟨⟨_, _, rfl⟩, Rd.own oN⟩, hI.held.trans (bN.mono hI.held.size), VF.below bN⟩
    | 26, hi =>
      obtain rfl := Option.some.inj hi
      refine ⟨by rfl, ?_⟩
      go_simp
      exact ⟨_, rfl, rfl, hI.held⟩
    | 27, hi =>
      obtain rfl := Option.some.inj hi
      have va : ac.tmps.getD 36 undef = .pointer (some ⟨w.heap.size, 22, none⟩) := hI.at hall 26 36 rfl rfl (by rfl)
      refine ⟨by rfl, wp_load_mid 34 (.tmp 36) rfl w.heap.size 22 va ((rootI s2 ds2 p2 q2).map (Value.int .i64)) _ (fs_range2 (gen : Int) (bl : Int) (cu : Int) (ck : Int) (op : Int) (ev : Int) (lg : Int) s1 ds1 p1 q1 s2 ds2 p2 q2 sn HD.out.1 HD.out.2.1 (HCell.out wz hI.held)) Tryz.underlying34 rfl (by rw [List.length_map, ← cellsI_size, HLen2.out]; exact info15) ?_⟩
      exact ⟨_, rfl, rfl, hI.held, fun _ _ h => h⟩
    | 28, hi =>
      obtain rfl := Option.some.inj hi
      have vb : ac.tmps.getD 37 undef = .agg (cellsI (rootI s2 ds2 p2 q2)) := hI.at hall 27 37 rfl rfl (by rfl)
      refine ⟨by rfl, ?_⟩
      go_simp
      refine (rootBytes_pos s2 ds2 p2 q2 _ HD.out.2.1 HBd.out.r2 HBd.out.q2).mono ?_
      rintro e w' ⟨gN, cN, rfl, oN, bN⟩
      exact ⟨_, rfl, ⟨⟨_, _, rfl⟩, Rd.own oN⟩, hI.held.trans (bN.mono hI.held.size), VF.below bN⟩
    | 29, hi =>
      obtain rfl := Option.some.inj hi
      obtain ⟨⟨x0, y0, e0'⟩, r0⟩ : Sl 8 fsLet (ac.tmps.getD 11 undef) wz := hI.at hall 1 11 rfl rfl (by rfl)
      rw [e0'] at r0
      have R0 := hide r0
      clear r0
      have n0 := e0'
      rw [Array.getD_eq_getD_getElem?] at n0
      obtain ⟨⟨x1, y1, e1'⟩, r1⟩ : Sl 8 (le 8 gen) (ac.tmps.getD 14 undef) wz := hI.at hall 4 14 rfl rfl (by rfl)
      rw [e1'] at r1
      have R1 := hide r1
      clear r1
      have n1 := e1'
      rw [Array.getD_eq_getD_getElem?] at n1
      obtain ⟨⟨x2, y2, e2'⟩, r2⟩ : Sl 4 (le 4 bl) (ac.tmps.getD 17 undef) wz := hI.at hall 7 17 rfl rfl (by rfl)
      rw [e2'] at r2
      have R2 := hide r2
      clear r2
      have n2 := e2'
      rw [Array.getD_eq_getD_getElem?] at n2
      obtain ⟨⟨x3, y3, e3'⟩, r3⟩ : Sl 4 (le 4 cu) (ac.tmps.getD 20 undef) wz := hI.at hall 10 20 rfl rfl (by rfl)
      rw [e3'] at r3
      have R3 := hide r3
      clear r3
      have n3 := e3'
      rw [Array.getD_eq_getD_getElem?] at n3
      obtain ⟨⟨x4, y4, e4'⟩, r4⟩ : Sl 8 (le 8 ck) (ac.tmps.getD 23 undef) wz := hI.at hall 13 23 rfl rfl (by rfl)
      rw [e4'] at r4
      have R4 := hide r4
      clear r4
      have n4 := e4'
      rw [Array.getD_eq_getD_getElem?] at n4
      obtain ⟨⟨x5, y5, e5'⟩, r5⟩ : Sl 8 (le 8 op) (ac.tmps.getD 26 undef) wz := hI.at hall 16 26 rfl rfl (by rfl)
      rw [e5'] at r5
      have R5 := hide r5
      clear r5
      have n5 := e5'
      rw [Array.getD_eq_getD_getElem?] at n5
      obtain ⟨⟨x6, y6, e6'⟩, r6⟩ : Sl 4 (le 4 ev) (ac.tmps.getD 29 undef) wz := hI.at hall 19 29 rfl rfl (by rfl)
      rw [e6'] at r6
      have R6 := hide r6
      clear r6
      have n6 := e6'
      rw [Array.getD_eq_getD_getElem?] at n6
      obtain ⟨⟨x7, y7, e7'⟩, r7⟩ : Sl 4 (le 4 lg) (ac.tmps.getD 32 undef) wz := hI.at hall 22 32 rfl rfl (by rfl)
      rw [e7'] at r7
      have R7 := hide r7
      clear r7
      have n7 := e7'
      rw [Array.getD_eq_getD_getElem?] at n7
      obtain ⟨⟨x8, y8, e8'⟩, r8⟩ : Sl 64 (bytesR s1 ds1 p1 q1) (ac.tmps.getD 35 undef) wz := hI.at hall 25 35 rfl rfl (by rfl)
      rw [e8'] at r8
      have R8 := hide r8
      clear r8
      have n8 := e8'
      rw [Array.getD_eq_getD_getElem?] at n8
      obtain ⟨⟨x9, y9, e9'⟩, r9⟩ : Sl 64 (bytesR s2 ds2 p2 q2) (ac.tmps.getD 38 undef) wz := hI.at hall 28 38 rfl rfl (by rfl)
      rw [e9'] at r9
      have R9 := hide r9
      clear r9
      have n9 := e9'
      rw [Array.getD_eq_getD_getElem?] at n9
      refine ⟨by rfl, ?_⟩
      go_simp
      have bN := (Below.refl wz.heap.size wz).alloc (Nat.le_refl _) (.cells #[.slice (some ⟨x0, 0, none⟩) 8 y0, .slice (some ⟨x1, 0, none⟩) 8 y1, .slice (some ⟨x2, 0, none⟩) 4 y2, .slice (some ⟨x3, 0, none⟩) 4 y3, .slice (some ⟨x4, 0, none⟩) 8 y4, .slice (some ⟨x5, 0, none⟩) 8 y5, .slice (some ⟨x6, 0, none⟩) 4 y6, .slice (some ⟨x7, 0, none⟩) 4 y7, .slice (some ⟨x8, 0, none⟩) 64 y8, .slice (some ⟨x9, 0, none⟩) 64 y9] 22)
      have HV := hide (show VF W.heap.size w.heap.size gen bl cu ck op ev lg s1 ds1 p1 q1 s2 ds2 p2 q2 29 (.slice (some ⟨wz.heap.size, 0, none⟩) 10 10) (wz.alloc (.cells #[.slice (some ⟨x0, 0, none⟩) 8 y0, .slice (some ⟨x1, 0, none⟩) 8 y1, .slice (some ⟨x2, 0, none⟩) 4 y2, .slice (some ⟨x3, 0, none⟩) 4 y3, .slice (some ⟨x4, 0, none⟩) 8 y4, .slice (some ⟨x5, 0, none⟩) 8 y5, .slice (some ⟨x6, 0, none⟩) 4 y6, .slice (some ⟨x7, 0, none⟩) 4 y7, .slice (some ⟨x8, 0, none⟩) 64 y8, .slice (some ⟨x9, 0, none⟩) 64 y9] 22)) from ⟨wz.heap.size, rfl, by simp, [.slice (some ⟨x0, 0, none⟩) 8 y0, .slice (some ⟨x1, 0, none⟩) 8 y1, .slice (some ⟨x2, 0, none⟩) 4 y2, .slice (some ⟨x3, 0, none⟩) 4 y3, .slice (some ⟨x4, 0, none⟩) 8 y4, .slice (some ⟨x5, 0, none⟩) 8 y5, .slice (some ⟨x6, 0, none⟩) 4 y6, .slice (some ⟨x7, 0, none⟩) 4 y7, .slice (some ⟨x8, 0, none⟩) 64 y8, .slice (some ⟨x9, 0, none⟩) 64 y9], fun j u hu => by
        rw [cell_of_row _ _ j _ _ _ (heap_alloc_new wz _)]
        simpa using hu, R0.out.below bN, R1.out.below bN, R2.out.below bN, R3.out.below bN, R4.out.below bN, R5.out.below bN, R6.out.below bN, R7.out.below bN, R8.out.below bN, R9.out.below bN, trivial⟩)
      exact ⟨_, rfl, HV.out, hI.held.trans (bN.mono hI.held.size), VF.below bN⟩
    | 30, hi =>
      obtain rfl := Option.some.inj hi
      obtain ⟨g, e14, hg14, vs, hc14, ha14⟩ : VF W.heap.size w.heap.size gen bl cu ck op ev lg s1 ds1 p1 q1 s2 ds2 p2 q2 29 (ac.tmps.getD 39 undef) wz := hI.at hall 29 39 rfl rfl (by rfl)
      have HA14 := hide (And.intro hc14 ha14)
      clear hc14 ha14
      refine ⟨by rfl, ?_⟩
      go_simp
      refine (join_any g 10 10 vs ([fsLet, le 8 gen, le 4 bl, le 4 cu, le 8 ck, le 8 op, le 4 ev, le 4 lg, bytesR s1 ds1 p1 q1, bytesR s2 ds2 p2 q2] : List (List Int)) _ HA14.out.1 HA14.out.2 rfl (by omega) HPos.out.1 HPos.out.2 hg14).mono ?_
      rintro e w' ⟨vJ, rfl, oN, bN⟩
      rw [HFl.out, HHL.out] at oN
      exact ⟨_, rfl, own_mono oN hI.held.size, hI.held.trans (bN.mono hI.held.size), VF.below bN⟩
    | 31, hi =>
      obtain rfl := Option.some.inj hi
      have v15 : wz.ownsRow W.heap.size 5 1 (ac.tmps.getD 40 undef) 176 ((headF gen bl cu ck op ev lg s1 ds1 p1 q1 s2 ds2 p2 q2).map (Value.int .u8)) := hI.at hall 30 40 rfl rfl (by rfl)
      generalize hx : ac.tmps.getD 40 undef = x at v15
      have HV15 := hide v15
      clear v15
      refine ⟨by rfl, ?_⟩
      go_simp
      exact ⟨_, rfl, HV15.out, hI.held⟩
    | i + 32, hi => cases hi
  case hfin =>
    intro listed ac wz hl hI
    refine NoPanic.normal ?_
    have v4 : wz.ownsRow W.heap.size 5 1 (ac.tmps.getD 4 undef) 176 ((headF gen bl cu ck op ev lg s1 ds1 p1 q1 s2 ds2 p2 q2).map (Value.int .u8)) := hI.vals 31 _ 4 rfl (hl 31 (by decide)) rfl
    have f1 : ac.tmps.getD 1 undef = .pointer (some ⟨w.heap.size, 0, none⟩) := hI.fix 1 _ (by simp)
    have hsz := hI.sz
    have hdf := hI.df
    have hBz := hI.held
    clear hI hl
    obtain ⟨tm, dfs⟩ := ac
    simp only at v4 f1 hsz hdf
    subst hdf
    have hT := tmps53 tm hsz
    rw [f1] at hT
    generalize tm.getD 4 undef = x4 at v4 hT
    generalize tm.getD 0 undef = t0 at hT
    generalize tm.getD 2 undef = t2 at hT
    generalize tm.getD 3 undef = t3 at hT
    generalize tm.getD 5 undef = t5 at hT
    generalize tm.getD 6 undef = t6 at hT
    generalize tm.getD 7 undef = t7 at hT
    generalize tm.getD 8 undef = t8 at hT
    generalize tm.getD 9 undef = t9 at hT
    generalize tm.getD 10 undef = t10 at hT
    generalize tm.getD 11 undef = t11 at hT
    generalize tm.getD 12 undef = t12 at hT
    generalize tm.getD 13 undef = t13 at hT
    generalize tm.getD 14 undef = t14 at hT
    generalize tm.getD 15 undef = t15 at hT
    generalize tm.getD 16 undef = t16 at hT
    generalize tm.getD 17 undef = t17 at hT
    generalize tm.getD 18 undef = t18 at hT
    generalize tm.getD 19 undef = t19 at hT
    generalize tm.getD 20 undef = t20 at hT
    generalize tm.getD 21 undef = t21 at hT
    generalize tm.getD 22 undef = t22 at hT
    generalize tm.getD 23 undef = t23 at hT
    generalize tm.getD 24 undef = t24 at hT
    generalize tm.getD 25 undef = t25 at hT
    generalize tm.getD 26 undef = t26 at hT
    generalize tm.getD 27 undef = t27 at hT
    generalize tm.getD 28 undef = t28 at hT
    generalize tm.getD 29 undef = t29 at hT
    generalize tm.getD 30 undef = t30 at hT
    generalize tm.getD 31 undef = t31 at hT
    generalize tm.getD 32 undef = t32 at hT
    generalize tm.getD 33 undef = t33 at hT
    generalize tm.getD 34 undef = t34 at hT
    generalize tm.getD 35 undef = t35 at hT
    generalize tm.getD 36 undef = t36 at hT
    generalize tm.getD 37 undef = t37 at hT
    generalize tm.getD 38 undef = t38 at hT
    generalize tm.getD 39 undef = t39 at hT
    generalize tm.getD 40 undef = t40 at hT
    generalize tm.getD 41 undef = t41 at hT
    generalize tm.getD 42 undef = t42 at hT
    generalize tm.getD 43 undef = t43 at hT
    generalize tm.getD 44 undef = t44 at hT
    generalize tm.getD 45 undef = t45 at hT
    generalize tm.getD 46 undef = t46 at hT
    generalize tm.getD 47 undef = t47 at hT
    generalize tm.getD 48 undef = t48 at hT
    generalize tm.getD 49 undef = t49 at hT
    generalize tm.getD 50 undef = t50 at hT
    generalize tm.getD 51 undef = t51 at hT
    generalize tm.getD 52 undef = t52 at hT
    clear hsz f1
    subst hT
    have V4 := hide v4
    have HBZ := hide hBz
    have HR := hide (fs_range3 (gen : Int) (bl : Int) (cu : Int) (ck : Int) (op : Int) (ev : Int) (lg : Int) s1 ds1 p1 q1 s2 ds2 p2 q2 sn HD.out.1 HD.out.2.1 HD.out.2.2 (HCell.out wz hBz))
    obtain ⟨bf, hbf⟩ : ∃ bf, bf = bytesF gen bl cu ck op ev lg s1 ds1 p1 q1 s2 ds2 p2 q2 sn := ⟨_, rfl⟩
    have HBF := hide (show bf = (headF gen bl cu ck op ev lg s1 ds1 p1 q1 s2 ds2 p2 q2) ++ bytesW sn from hbf)
    have HBG := hide hbf
    have HBL := hide (show bf.length = 300 from by rw [hbf]; exact bytesF_len gen bl cu ck op ev lg s1 ds1 p1 q1 s2 ds2 p2 q2 sn HD.out.1 HD.out.2.1 HD.out.2.2)
    have HBB := hide (show ∀ z ∈ bf, 0 ≤ z ∧ z < 256 from by rw [hbf]; exact bytesF_bd gen bl cu ck op ev lg s1 ds1 p1 q1 s2 ds2 p2 q2 sn)
    clear v4 hBz hbf
    generalize (headF gen bl cu ck op ev lg s1 ds1 p1 q1 s2 ds2 p2 q2) = hf at V4 HBF HHL HFl
    go_wp2_with (refine wpList_load_mid rfl 35 _ rfl w.heap.size 37 rfl (sn.map (Value.int .i64)) _ HR.out Tryz.underlying35 rfl (by rw [List.length_map, HD.out.2.2]; exact info31) ?_)
    go_loopw [4, 43] (fun o i wr => ∃ j : Nat, j ≤ 31 ∧ i = .int .i64 j ∧ wr.ownsRow W.heap.size 5 1 o (176 + 4 * j) ((hf ++ bytesW (sn.take j)).map (Value.int .u8)) ∧ Below W.heap.size W wr) (fun _ i _ => 31 - (intOf i).toNat)
    case atStart => exact ⟨0, by omega, rfl, by simpa [bytesW] using V4.out, HBZ.out⟩
    case round =>
      clear V4 HBZ HR
      obtain ⟨j, hj, rfl, hown, hb⟩ := hrel
      have hszb := hb.size
      by_cases hlt : j < 31
      · have hjl : j < sn.length := by rw [HD.out.2.2]; exact hlt
        have hix : ∀ w, (Instr.index 35 (.agg (sn.map (Value.int .i64)).toArray) (.int .i64 j)).run Tryz.prog w = .ok (.int .i64 (sn.getD j 0)) w := fun w => HX.out j hlt w
        have hz1' := HBd.out.sn (sn.getD j 0) (by simp [List.getD, hjl])
        have HT := hide (bytesW_take sn j hjl)
        have HC := hide (And.intro hown hb)
        clear hown hb hjl
        generalize sn.getD j 0 = z at hix HT hz1'
        obtain ⟨y, rfl⟩ := Int.eq_ofNat_of_zero_le hz1'.1
        obtain ⟨_, hy2⟩ := hz1'
        have hy : y < 2048 := by omega
        clear hy2
        rw [Int.toNat_natCast] at HT
        go_wp2_with (go_at_call 54; fail)
        refine (put_pos y 4 _ (by omega) (by omega) (by omega)).mono ?_
        rintro e w3 ⟨g3, cp3, rfl, o3, b3⟩
        have hs3 := b3.size
        have hop := own_below HC.out.1 b3
        go_wp2_with (at_builtin; refine append_fresh _ rfl (.tmp 46) (.tmp 48) 22 rfl W.heap.size 5 i0 (.int .u8 0) 1 1 Tryz.underlying22 hi0 hz0 hz1 hz2 rfl (by decide) _ _ _ rfl hop ⟨g3, 0, none⟩ 4 cp3 ((le 4 y).map (Value.int .u8)) rfl (by simp [le_len]) (o3.cells rfl) (ints_oneCell _ _) (by omega) (by unfold maxLen; omega) (by omega) (by omega) ?_; intro v5 w5 o5 g5 f5)
        have HW := hide (show w5.ownsRow W.heap.size 5 1 v5 (176 + 4 * (j + 1)) ((hf ++ bytesW (sn.take (j + 1))).map (Value.int .u8)) ∧ Below W.heap.size W w5 from by
          refine ⟨?_, (HC.out.2.trans (b3.mono hszb)).grown g5 (by omega) (fun r h => (hop.lt r h).1)⟩
          rw [HT.out, ← List.append_assoc, List.map_append, show 176 + 4 * (j + 1) = 176 + 4 * j + 4 from by omega]
          exact o5)
        clear o3 b3 hop o5 g5 f5
        go_roundw
        case rel => exact ⟨j + 1, by omega, by go_num, HW.out.1, HW.out.2⟩
        case measure => simp [intOf]; omega
      · have e31 : j = 31 := by omega
        subst e31
        rw [List.take_of_length_le (by rw [HD.out.2.2]; omega), ← HBF.out] at hown
        have HO := hide (And.intro (Rd.own hown) hb)
        clear hown hb
        go_wp2_with (go_at_call 56; fail)
        refine (sealed_any _ bf _ HO.out.1 (by rw [HBL.out]; omega) (by rw [HBL.out]; omega) HBB.out).mono ?_
        rintro e w5 ⟨v5, rfl, o5, b5⟩
        have H5 := hide (And.intro (own_mono o5 (show w.heap.size ≤ wr.heap.size by omega)) (B2.out.trans ((HO.out.2.trans (b5.mono HO.out.2.size)).mono B2.out.size)))
        clear o5 b5
        go_wp2
        go_ret2
        exact ⟨_, rfl, by rw [← HBG.out]; exact H5.out.1, H5.out.2⟩
theorem specFs_any (gen bl cu ck op ev lg s1 : Int) (ds1 : List Int) (p1 q1 s2 : Int) (ds2 : List Int) (p2 q2 : Int) (sn : List Int) (w : World) (hd1 : ds1.length = 12) (hd2 : ds2.length = 12) (hsn : sn.length = 31) :
    Calls Tryz.prog 32 #[.agg (cellsI (fsI gen bl cu ck op ev lg s1 ds1 p1 q1 s2 ds2 p2 q2 sn))] w fun e w' => ∃ v', e = .returned (.tuple #[v', .int .i64 (codeFs gen bl cu ck op ev lg s1 ds1 p1 q1 s2 ds2 p2 q2 sn)]) ∧ w'.ownsRow w.heap.size 5 1 v' (encFs gen bl cu ck op ev lg s1 ds1 p1 q1 s2 ds2 p2 q2 sn).length ((encFs gen bl cu ck op ev lg s1 ds1 p1 q1 s2 ds2 p2 q2 sn).map (Value.int .u8)) ∧ Below w.heap.size w w' := by
  cases hr : rightF gen bl cu ck op ev lg s1 ds1 p1 q1 s2 ds2 p2 q2 sn with
  | false =>
    refine (specFs_false gen bl cu ck op ev lg s1 ds1 p1 q1 s2 ds2 p2 q2 sn w hd1 hd2 hsn hr).mono ?_
    rintro e w' ⟨rfl, hb⟩
    refine ⟨_, by unfold codeFs; rw [hr]; rfl, ?_, hb⟩
    unfold encFs
    rw [hr]
    exact World.ownsRow_nil _ _ _ _
  | true =>
    have hB := fs_bd gen bl cu ck op ev lg s1 ds1 p1 q1 s2 ds2 p2 q2 sn hd1 hd2 hr
    obtain ⟨a0, rfl⟩ := Int.eq_ofNat_of_zero_le hB.g0.1
    obtain ⟨a1, rfl⟩ := Int.eq_ofNat_of_zero_le hB.g1.1
    obtain ⟨a2, rfl⟩ := Int.eq_ofNat_of_zero_le hB.g2.1
    obtain ⟨a3, rfl⟩ := Int.eq_ofNat_of_zero_le hB.g3.1
    obtain ⟨a4, rfl⟩ := Int.eq_ofNat_of_zero_le hB.g4.1
    obtain ⟨a5, rfl⟩ := Int.eq_ofNat_of_zero_le hB.g5.1
    obtain ⟨a6, rfl⟩ := Int.eq_ofNat_of_zero_le hB.g6.1
    refine (specFs_true a0 a1 a2 a3 a4 a5 a6 s1 ds1 p1 q1 s2 ds2 p2 q2 sn w hd1 hd2 hsn hB hr).mono ?_
    rintro e w' ⟨v', rfl, ho, hb⟩
    refine ⟨v', by unfold codeFs; rw [hr]; rfl, ?_, hb⟩
    unfold encFs
    rw [if_pos hr]
    simp only [Int.toNat_natCast]
    rw [sealed_len _ (by rw [bytesF_len _ _ _ _ _ _ _ _ _ _ _ _ _ _ _ _ hd1 hd2 hsn]; omega)]
    exact ho
end Go.Proofs.YtkbbnflblkkepaaGreatDoor
