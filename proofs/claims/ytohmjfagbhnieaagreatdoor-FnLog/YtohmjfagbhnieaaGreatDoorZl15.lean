/- EncodeOp of the model. -/
import Derived.Test.YtohmjfagbhnieaaGreatDoorZl14
import Derived.Test.YtohmjfagbhnieaaGreatDoorZl05
namespace Go.Proofs.YtohmjfagbhnieaaGreatDoor
set_option linter.unusedVariables false
set_option linter.unusedSimpArgs false
open Go.RowKit
/-- What the values of the region are. -/
def VMo (bb base : Nat) (K : Nat) (A B : Int) (U G : Nat) (p q : ByteArray) (da : Option Addr) (dc : Nat) (ds : List Int) (i : Nat) (v : Value) (w : World) : Prop := match i with
  | 0 => v = .pointer (some ⟨bb, 0, none⟩)
  | 1 => v = .int .i64 (K : Int)
  | 2 => SlA 1 (le 1 K) v w
  | 3 => v = .pointer (some ⟨bb, 1, none⟩)
  | 4 => v = .int .i64 A
  | 5 => SlA 8 (le 8 (s64 A)) v w
  | 6 => v = .pointer (some ⟨bb, 2, none⟩)
  | 7 => v = .int .i64 B
  | 8 => SlA 8 (le 8 (s64 B)) v w
  | 9 => v = .pointer (some ⟨bb, 3, none⟩)
  | 10 => v = .int .i64 (U : Int)
  | 11 => SlA 2 (le 2 U) v w
  | 12 => v = .pointer (some ⟨bb, 4, none⟩)
  | 13 => v = .int .i64 (G : Int)
  | 14 => SlA 2 (le 2 G) v w
  | 15 => v = .pointer (some ⟨bb, 5, none⟩)
  | 16 => v = .string p
  | 17 => v = .int .i64 (p.size : Int)
  | 18 => SlA 2 (le 2 p.size) v w
  | 19 => v = .pointer (some ⟨bb, 5, none⟩)
  | 20 => v = .string p
  | 21 => SlA p.size (strI p) v w
  | 22 => v = .pointer (some ⟨bb, 6, none⟩)
  | 23 => v = .string q
  | 24 => v = .int .i64 (q.size : Int)
  | 25 => SlA 2 (le 2 q.size) v w
  | 26 => v = .pointer (some ⟨bb, 6, none⟩)
  | 27 => v = .string q
  | 28 => SlA q.size (strI q) v w
  | 29 => v = .pointer (some ⟨bb, 7, none⟩)
  | 30 => v = .slice da ds.length dc ∧ Rd .u8 w v ds
  | 31 => v = .int .i64 (ds.length : Int)
  | 32 => SlA 4 (le 4 ds.length) v w
  | 33 => v = .pointer (some ⟨bb, 7, none⟩)
  | 34 => v = .slice da ds.length dc ∧ Rd .u8 w v ds
  | 35 => ∃ g, v = .slice (some ⟨g, 0, none⟩) 11 11 ∧ g < w.heap.size ∧ ∃ vs, (∀ j u, vs[j]? = some u → w.cell? ⟨g, j, none⟩ = some u) ∧ AllRd w vs (partsO K A B U G p q ds)
  | 36 => w.ownsRow base 5 1 v (bytesO K A B U G p q ds).length ((bytesO K A B U G p q ds).map (Value.int .u8))
  | 37 => w.ownsRow base 5 1 v (bytesO K A B U G p q ds).length ((bytesO K A B U G p q ds).map (Value.int .u8))
  | 38 => v = .int .i64 0
  | _ => False
theorem VMo.below {bb base K : Nat} {A B : Int} {U G : Nat} {p q : ByteArray} {da : Option Addr} {dc : Nat} {ds : List Int} {w w' : World} (hb : Below w.heap.size w w') : ∀ (j : Nat) (u : Value), VMo bb base K A B U G p q da dc ds j u w → VMo bb base K A B U G p q da dc ds j u w'
  | 0, _, h => h
  | 1, _, h => h
  | 2, _, h => SlA.below h hb
  | 3, _, h => h
  | 4, _, h => h
  | 5, _, h => SlA.below h hb
  | 6, _, h => h
  | 7, _, h => h
  | 8, _, h => SlA.below h hb
  | 9, _, h => h
  | 10, _, h => h
  | 11, _, h => SlA.below h hb
  | 12, _, h => h
  | 13, _, h => h
  | 14, _, h => SlA.below h hb
  | 15, _, h => h
  | 16, _, h => h
  | 17, _, h => h
  | 18, _, h => SlA.below h hb
  | 19, _, h => h
  | 20, _, h => h
  | 21, _, h => SlA.below h hb
  | 22, _, h => h
  | 23, _, h => h
  | 24, _, h => h
  | 25, _, h => SlA.below h hb
  | 26, _, h => h
  | 27, _, h => h
  | 28, _, h => SlA.below h hb
  | 29, _, h => h
  | 30, _, h => ⟨h.1, h.2.below hb⟩
  | 31, _, h => h
  | 32, _, h => SlA.below h hb
  | 33, _, h => h
  | 34, _, h => ⟨h.1, h.2.below hb⟩
  | 35, _, ⟨g, h1, h2, vs, h3, h4⟩ => ⟨g, h1, Nat.lt_of_lt_of_le h2 hb.size, vs, fun j u hu => (hb.cell (p := ⟨g, j, none⟩) h2).trans (h3 j u hu), h4.below hb⟩
  | 36, _, h => own_below h hb
  | 37, _, h => own_below h hb
  | 38, _, h => h
  | _ + 39, _, h => h
set_option maxRecDepth 100000 in
set_option maxHeartbeats 2000000 in
theorem specEO_false (K A B U G : Int) (p q : ByteArray) (da : Option Addr) (n dc : Nat) (w : World) (hpm : p.size ≤ maxLen) (hqm : q.size ≤ maxLen) (hnm : n ≤ maxLen) (hr : rightO K U G p q n = false) :
    Calls Tryz.prog 11 #[.agg (opC K A B U G p q (.slice da n dc))] w fun e w' => e = .returned (.tuple #[.slice none 0 0, .int .i64 7]) ∧ Below w.heap.size w w' := by
  have HB := hide (show Below w.heap.size w (w.alloc (.cells (opC K A B U G p q (.slice da n dc)) 30)) from (Below.refl _ _).alloc (Nat.le_refl _) _)
  unfold maxLen at hpm hqm hnm
  have c0 : (w.alloc (.cells (opC K A B U G p q (.slice da n dc)) 30)).cell? ⟨w.heap.size, 0, none⟩ = some (.int .i64 K) := ((Blk.new w (opC K A B U G p q (.slice da n dc)) 30).cell 0).trans rfl
  have c3 : (w.alloc (.cells (opC K A B U G p q (.slice da n dc)) 30)).cell? ⟨w.heap.size, 3, none⟩ = some (.int .i64 U) := ((Blk.new w (opC K A B U G p q (.slice da n dc)) 30).cell 3).trans rfl
  have c4 : (w.alloc (.cells (opC K A B U G p q (.slice da n dc)) 30)).cell? ⟨w.heap.size, 4, none⟩ = some (.int .i64 G) := ((Blk.new w (opC K A B U G p q (.slice da n dc)) 30).cell 4).trans rfl
  have c5 : (w.alloc (.cells (opC K A B U G p q (.slice da n dc)) 30)).cell? ⟨w.heap.size, 5, none⟩ = some (.string p) := ((Blk.new w (opC K A B U G p q (.slice da n dc)) 30).cell 5).trans rfl
  have c6 : (w.alloc (.cells (opC K A B U G p q (.slice da n dc)) 30)).cell? ⟨w.heap.size, 6, none⟩ = some (.string q) := ((Blk.new w (opC K A B U G p q (.slice da n dc)) 30).cell 6).trans rfl
  have c7 : (w.alloc (.cells (opC K A B U G p q (.slice da n dc)) 30)).cell? ⟨w.heap.size, 7, none⟩ = some (.slice da n dc) := ((Blk.new w (opC K A B U G p q (.slice da n dc)) 30).cell 7).trans rfl
  have HR := hide hr
  clear hr
  cases h0 : wi K 0 255 with
  | false =>
    clear HR
    go_enter Tryz.func11, Tryz.ntmps11
    go_wp2_with (go_at_call 32; fail)
    refine (l02Within_any (K : Int) 0 255 _).mono ?_
    rintro e w1 ⟨rfl, rfl⟩
    rw [h0]
    go_wp2
    go_ret2
    exact ⟨rfl, HB.out⟩
  | true =>
    cases h1 : wi U 0 65535 with
    | false =>
      clear HR
      go_enter Tryz.func11, Tryz.ntmps11
      go_wp2_with (go_at_call 32; fail)
      refine (l02Within_any (K : Int) 0 255 _).mono ?_
      rintro e w1 ⟨rfl, rfl⟩
      rw [h0]
      go_wp2_with (go_at_call 32; fail)
      refine (l02Within_any (U : Int) 0 65535 _).mono ?_
      rintro e w2 ⟨rfl, rfl⟩
      rw [h1]
      go_wp2
      go_ret2
      exact ⟨rfl, HB.out⟩
    | true =>
      cases h2 : wi G 0 65535 with
      | false =>
        clear HR
        go_enter Tryz.func11, Tryz.ntmps11
        go_wp2_with (go_at_call 32; fail)
        refine (l02Within_any (K : Int) 0 255 _).mono ?_
        rintro e w1 ⟨rfl, rfl⟩
        rw [h0]
        go_wp2_with (go_at_call 32; fail)
        refine (l02Within_any (U : Int) 0 65535 _).mono ?_
        rintro e w2 ⟨rfl, rfl⟩
        rw [h1]
        go_wp2_with (go_at_call 32; fail)
        refine (l02Within_any (G : Int) 0 65535 _).mono ?_
        rintro e w3 ⟨rfl, rfl⟩
        rw [h2]
        go_wp2
        go_ret2
        exact ⟨rfl, HB.out⟩
      | true =>
        by_cases g0 : 512 < p.size
        · clear HR
          go_enter Tryz.func11, Tryz.ntmps11
          go_wp2_with (go_at_call 32; fail)
          refine (l02Within_any (K : Int) 0 255 _).mono ?_
          rintro e w1 ⟨rfl, rfl⟩
          rw [h0]
          go_wp2_with (go_at_call 32; fail)
          refine (l02Within_any (U : Int) 0 65535 _).mono ?_
          rintro e w2 ⟨rfl, rfl⟩
          rw [h1]
          go_wp2_with (go_at_call 32; fail)
          refine (l02Within_any (G : Int) 0 65535 _).mono ?_
          rintro e w3 ⟨rfl, rfl⟩
          rw [h2]
          go_wp2
          go_ret2
          exact ⟨rfl, HB.out⟩
        by_cases g1 : 512 < q.size
        · clear HR
          go_enter Tryz.func11, Tryz.ntmps11
          go_wp2_with (go_at_call 32; fail)
          refine (l02Within_any (K : Int) 0 255 _).mono ?_
          rintro e w1 ⟨rfl, rfl⟩
          rw [h0]
          go_wp2_with (go_at_call 32; fail)
          refine (l02Within_any (U : Int) 0 65535 _).mono ?_
          rintro e w2 ⟨rfl, rfl⟩
          rw [h1]
          go_wp2_with (go_at_call 32; fail)
          refine (l02Within_any (G : Int) 0 65535 _).mono ?_
          rintro e w3 ⟨rfl, rfl⟩
          rw [h2]
          go_wp2
          go_ret2
          exact ⟨rfl, HB.out⟩
        by_cases g2 : 4096 < n
        · clear HR
          go_enter Tryz.func11, Tryz.ntmps11
          go_wp2_with (go_at_call 32; fail)
          refine (l02Within_any (K : Int) 0 255 _).mono ?_
          rintro e w1 ⟨rfl, rfl⟩
          rw [h0]
          go_wp2_with (go_at_call 32; fail)
          refine (l02Within_any (U : Int) 0 65535 _).mono ?_
          rintro e w2 ⟨rfl, rfl⟩
          rw [h1]
          go_wp2_with (go_at_call 32; fail)
          refine (l02Within_any (G : Int) 0 65535 _).mono ?_
          rintro e w3 ⟨rfl, rfl⟩
          rw [h2]
          go_wp2
          go_ret2
          exact ⟨rfl, HB.out⟩
        exfalso
        have hr := HR.out
        unfold rightO at hr
        rw [h0, h1, h2] at hr
        simp only [wi, Bool.and_eq_false_iff, Bool.true_and, decide_eq_false_iff_not] at hr
        omega
set_option maxRecDepth 100000 in
set_option maxHeartbeats 4000000 in
theorem specEO_true (K : Nat) (A B : Int) (U G : Nat) (p q : ByteArray) (dv : Value) (ds : List Int) (w : World) (h : Rd .u8 w dv ds) (hK : K < 256) (hU : U < 65536) (hG : G < 65536) (hp : p.size ≤ 512) (hq : q.size ≤ 512) (hn : ds.length ≤ 4096) :
    Calls Tryz.prog 11 #[.agg (opC (K : Int) A B (U : Int) (G : Int) p q dv)] w fun e w' => ∃ v', e = .returned (.tuple #[v', .int .i64 0]) ∧ w'.ownsRow w.heap.size 5 1 v' (bytesO K A B U G p q ds).length ((bytesO K A B U G p q ds).map (Value.int .u8)) ∧ Below w.heap.size w w' := by
  have HR := hide h
  obtain ⟨da, dc, rfl⟩ : ∃ a c, dv = .slice a ds.length c := by obtain ⟨a, c, e, _⟩ := h; exact ⟨a, c, e⟩
  have HLen := hide (show (partsO K A B U G p q ds).flatten.length ≤ 1000000 from by have := bytesO_len K A B U G p q ds; unfold bytesO at this; omega)
  have K0 := hide (Blk.new w (opC (K : Int) A B (U : Int) (G : Int) p q (.slice da ds.length dc)) 30)
  have B0 := hide (show Below w.heap.size w (w.alloc (.cells (opC (K : Int) A B (U : Int) (G : Int) p q (.slice da ds.length dc)) 30)) from (Below.refl _ _).alloc (Nat.le_refl _) _)
  have c0 : (w.alloc (.cells (opC (K : Int) A B (U : Int) (G : Int) p q (.slice da ds.length dc)) 30)).cell? ⟨w.heap.size, 0, none⟩ = some (.int .i64 (K : Int)) := ((Blk.new w (opC (K : Int) A B (U : Int) (G : Int) p q (.slice da ds.length dc)) 30).cell 0).trans rfl
  have c1 : (w.alloc (.cells (opC (K : Int) A B (U : Int) (G : Int) p q (.slice da ds.length dc)) 30)).cell? ⟨w.heap.size, 1, none⟩ = some (.int .i64 A) := ((Blk.new w (opC (K : Int) A B (U : Int) (G : Int) p q (.slice da ds.length dc)) 30).cell 1).trans rfl
  have c2 : (w.alloc (.cells (opC (K : Int) A B (U : Int) (G : Int) p q (.slice da ds.length dc)) 30)).cell? ⟨w.heap.size, 2, none⟩ = some (.int .i64 B) := ((Blk.new w (opC (K : Int) A B (U : Int) (G : Int) p q (.slice da ds.length dc)) 30).cell 2).trans rfl
  have c3 : (w.alloc (.cells (opC (K : Int) A B (U : Int) (G : Int) p q (.slice da ds.length dc)) 30)).cell? ⟨w.heap.size, 3, none⟩ = some (.int .i64 (U : Int)) := ((Blk.new w (opC (K : Int) A B (U : Int) (G : Int) p q (.slice da ds.length dc)) 30).cell 3).trans rfl
  have c4 : (w.alloc (.cells (opC (K : Int) A B (U : Int) (G : Int) p q (.slice da ds.length dc)) 30)).cell? ⟨w.heap.size, 4, none⟩ = some (.int .i64 (G : Int)) := ((Blk.new w (opC (K : Int) A B (U : Int) (G : Int) p q (.slice da ds.length dc)) 30).cell 4).trans rfl
  have c5 : (w.alloc (.cells (opC (K : Int) A B (U : Int) (G : Int) p q (.slice da ds.length dc)) 30)).cell? ⟨w.heap.size, 5, none⟩ = some (.string p) := ((Blk.new w (opC (K : Int) A B (U : Int) (G : Int) p q (.slice da ds.length dc)) 30).cell 5).trans rfl
  have c6 : (w.alloc (.cells (opC (K : Int) A B (U : Int) (G : Int) p q (.slice da ds.length dc)) 30)).cell? ⟨w.heap.size, 6, none⟩ = some (.string q) := ((Blk.new w (opC (K : Int) A B (U : Int) (G : Int) p q (.slice da ds.length dc)) 30).cell 6).trans rfl
  have c7 : (w.alloc (.cells (opC (K : Int) A B (U : Int) (G : Int) p q (.slice da ds.length dc)) 30)).cell? ⟨w.heap.size, 7, none⟩ = some (.slice da ds.length dc) := ((Blk.new w (opC (K : Int) A B (U : Int) (G : Int) p q (.slice da ds.length dc)) 30).cell 7).trans rfl
  generalize hW : w.alloc (.cells (opC (K : Int) A B (U : Int) (G : Int) p q (.slice da ds.length dc)) 30) = W at K0 B0 c0 c1 c2 c3 c4 c5 c6 c7
  have KC := hide (show ∀ w', Below (W).heap.size (W) w' → Rd .u8 w' (.slice da ds.length dc) ds ∧ w'.cell? ⟨w.heap.size, 0, none⟩ = some (.int .i64 (K : Int)) ∧ w'.cell? ⟨w.heap.size, 1, none⟩ = some (.int .i64 A) ∧ w'.cell? ⟨w.heap.size, 2, none⟩ = some (.int .i64 B) ∧ w'.cell? ⟨w.heap.size, 3, none⟩ = some (.int .i64 (U : Int)) ∧ w'.cell? ⟨w.heap.size, 4, none⟩ = some (.int .i64 (G : Int)) ∧ w'.cell? ⟨w.heap.size, 5, none⟩ = some (.string p) ∧ w'.cell? ⟨w.heap.size, 6, none⟩ = some (.string q) ∧ w'.cell? ⟨w.heap.size, 7, none⟩ = some (.slice da ds.length dc) ∧ True from fun w' hb => ⟨(HR.out.below B0.out).below hb, ((K0.out.below hb K0.out.lt).cell 0).trans rfl, ((K0.out.below hb K0.out.lt).cell 1).trans rfl, ((K0.out.below hb K0.out.lt).cell 2).trans rfl, ((K0.out.below hb K0.out.lt).cell 3).trans rfl, ((K0.out.below hb K0.out.lt).cell 4).trans rfl, ((K0.out.below hb K0.out.lt).cell 5).trans rfl, ((K0.out.below hb K0.out.lt).cell 6).trans rfl, ((K0.out.below hb K0.out.lt).cell 7).trans rfl, trivial⟩)
  have h0 : wi (K : Int) 0 255 = true := by simp [wi]; omega
  have h1 : wi (U : Int) 0 65535 = true := by simp [wi]; omega
  have h2 : wi (G : Int) 0 65535 = true := by simp [wi]; omega
  clear h K0
  go_enter Tryz.func11, Tryz.ntmps11
  go_wp2_with (go_at_call 32; fail)
  refine (l02Within_any (K : Int) 0 255 _).mono ?_
  rintro e w1 ⟨rfl, rfl⟩
  rw [h0]
  go_wp2_with (go_at_call 32; fail)
  refine (l02Within_any (U : Int) 0 65535 _).mono ?_
  rintro e w2 ⟨rfl, rfl⟩
  rw [h1]
  go_wp2_with (go_at_call 32; fail)
  refine (l02Within_any (G : Int) 0 65535 _).mono ?_
  rintro e w3 ⟨rfl, rfl⟩
  rw [h2]
  go_wp2
  try rw [show (w.alloc (.cells (opC (K : Int) A B (U : Int) (G : Int) p q (.slice da ds.length dc)) 30)) = W from hW]
  clear hW c0 c1 c2 c3 c4 c5 c6 c7 h0 h1 h2
  refine wp_region_noPanic ?_
  refine wp_region_any (by kernel_rfl) ?_
  refine wpAny_invB [(1, .pointer (some ⟨w.heap.size, 0, none⟩))] (fun w' => Below W.heap.size W w') (VMo w.heap.size W.heap.size K A B U G p q da dc ds) 75 [] (by kernel_rfl) ?hstep ?hfin _ _ (by rfl) (by rfl) ((Below.refl _ _).drew) (by intro t v h; simp at h; obtain ⟨rfl, rfl⟩ := h; rfl)
  case hstep =>
    intro i o listed ac wz hi hall hI
    have f1 : ac.tmps.getD 1 undef = .pointer (some ⟨w.heap.size, 0, none⟩) := hI.fix 1 _ (by simp)
    match i, hi with
    | 0, hi =>
      obtain rfl := Option.some.inj hi
      refine ⟨by rfl, ?_⟩
      go_simp
      exact ⟨_, rfl, rfl, hI.held⟩
    | 1, hi =>
      obtain rfl := Option.some.inj hi
      have v0 : ac.tmps.getD 38 undef = .pointer (some ⟨w.heap.size, 0, none⟩) := hI.at hall 0 38 rfl rfl (by rfl)
      have hc := (KC.out wz hI.held).2.1
      refine ⟨by rfl, ?_⟩
      go_simp
      exact ⟨_, rfl, rfl, hI.held⟩
    | 2, hi =>
      obtain rfl := Option.some.inj hi
      have v1 : ac.tmps.getD 39 undef = .int .i64 (K : Int) := hI.at hall 1 39 rfl rfl (by rfl)
      refine ⟨by rfl, ?_⟩
      go_simp
      refine (put_pos K 1 _ (by omega) (by omega) (by omega)).mono ?_
      rintro e w' ⟨gN, cN, rfl, oN, bN⟩
      exact ⟨_, rfl, ⟨⟨_, _, rfl⟩, Rd.own oN⟩, hI.held.trans (bN.mono hI.held.size), VMo.below bN⟩
    | 3, hi =>
      obtain rfl := Option.some.inj hi
      refine ⟨by rfl, ?_⟩
      go_simp
      exact ⟨_, rfl, rfl, hI.held⟩
    | 4, hi =>
      obtain rfl := Option.some.inj hi
      have v3 : ac.tmps.getD 41 undef = .pointer (some ⟨w.heap.size, 1, none⟩) := hI.at hall 3 41 rfl rfl (by rfl)
      have hc := (KC.out wz hI.held).2.2.1
      refine ⟨by rfl, ?_⟩
      go_simp
      exact ⟨_, rfl, rfl, hI.held⟩
    | 5, hi =>
      obtain rfl := Option.some.inj hi
      have v4 : ac.tmps.getD 42 undef = .int .i64 A := hI.at hall 4 42 rfl rfl (by rfl)
      refine ⟨by rfl, ?_⟩
      go_simp
      refine (signed_any A _).mono ?_
      rintro e w' ⟨gN, cN, rfl, oN, bN⟩
      exact ⟨_, rfl, ⟨⟨_, _, rfl⟩, Rd.own oN⟩, hI.held.trans (bN.mono hI.held.size), VMo.below bN⟩
    | 6, hi =>
      obtain rfl := Option.some.inj hi
      refine ⟨by rfl, ?_⟩
      go_simp
      exact ⟨_, rfl, rfl, hI.held⟩
    | 7, hi =>
      obtain rfl := Option.some.inj hi
      have v6 : ac.tmps.getD 44 undef = .pointer (some ⟨w.heap.size, 2, none⟩) := hI.at hall 6 44 rfl rfl (by rfl)
      have hc := (KC.out wz hI.held).2.2.2.1
      refine ⟨by rfl, ?_⟩
      go_simp
      exact ⟨_, rfl, rfl, hI.held⟩
    | 8, hi =>
      obtain rfl := Option.some.inj hi
      have v7 : ac.tmps.getD 45 undef = .int .i64 B := hI.at hall 7 45 rfl rfl (by rfl)
      refine ⟨by rfl, ?_⟩
      go_simp
      refine (signed_any B _).mono ?_
      rintro e w' ⟨gN, cN, rfl, oN, bN⟩
      exact ⟨_, rfl, ⟨⟨_, _, rfl⟩, Rd.own oN⟩, hI.held.trans (bN.mono hI.held.size), VMo.below bN⟩
    | 9, hi =>
      obtain rfl := Option.some.inj hi
      refine ⟨by rfl, ?_⟩
      go_simp
      exact ⟨_, rfl, rfl, hI.held⟩
    | 10, hi =>
      obtain rfl := Option.some.inj hi
      have v9 : ac.tmps.getD 47 undef = .pointer (some ⟨w.heap.size, 3, none⟩) := hI.at hall 9 47 rfl rfl (by rfl)
      have hc := (KC.out wz hI.held).2.2.2.2.1
      refine ⟨by rfl, ?_⟩
      go_simp
      exact ⟨_, rfl, rfl, hI.held⟩
    | 11, hi =>
      obtain rfl := Option.some.inj hi
      have v10 : ac.tmps.getD 48 undef = .int .i64 (U : Int) := hI.at hall 10 48 rfl rfl (by rfl)
      refine ⟨by rfl, ?_⟩
      go_simp
      refine (put_pos U 2 _ (by omega) (by omega) (by omega)).mono ?_
      rintro e w' ⟨gN, cN, rfl, oN, bN⟩
      exact ⟨_, rfl, ⟨⟨_, _, rfl⟩, Rd.own oN⟩, hI.held.trans (bN.mono hI.held.size), VMo.below bN⟩
    | 12, hi =>
      obtain rfl := Option.some.inj hi
      refine ⟨by rfl, ?_⟩
      go_simp
      exact ⟨_, rfl, rfl, hI.held⟩
    | 13, hi =>
      obtain rfl := Option.some.inj hi
      have v12 : ac.tmps.getD 50 undef = .pointer (some ⟨w.heap.size, 4, none⟩) := hI.at hall 12 50 rfl rfl (by rfl)
      have hc := (KC.out wz hI.held).2.2.2.2.2.1
      refine ⟨by rfl, ?_⟩
      go_simp
      exact ⟨_, rfl, rfl, hI.held⟩
    | 14, hi =>
      obtain rfl := Option.some.inj hi
      have v13 : ac.tmps.getD 51 undef = .int .i64 (G : Int) := hI.at hall 13 51 rfl rfl (by rfl)
      refine ⟨by rfl, ?_⟩
      go_simp
      refine (put_pos G 2 _ (by omega) (by omega) (by omega)).mono ?_
      rintro e w' ⟨gN, cN, rfl, oN, bN⟩
      exact ⟨_, rfl, ⟨⟨_, _, rfl⟩, Rd.own oN⟩, hI.held.trans (bN.mono hI.held.size), VMo.below bN⟩
    | 15, hi =>
      obtain rfl := Option.some.inj hi
      refine ⟨by rfl, ?_⟩
      go_simp
      exact ⟨_, rfl, rfl, hI.held⟩
    | 16, hi =>
      obtain rfl := Option.some.inj hi
      have v15 : ac.tmps.getD 53 undef = .pointer (some ⟨w.heap.size, 5, none⟩) := hI.at hall 15 53 rfl rfl (by rfl)
      have hc := (KC.out wz hI.held).2.2.2.2.2.2.1
      refine ⟨by rfl, ?_⟩
      go_simp
      exact ⟨_, rfl, rfl, hI.held⟩
    | 17, hi =>
      obtain rfl := Option.some.inj hi
      have v16 : ac.tmps.getD 54 undef = .string p := hI.at hall 16 54 rfl rfl (by rfl)
      refine ⟨by rfl, ?_⟩
      go_simp
      exact ⟨_, rfl, rfl, hI.held⟩
    | 18, hi =>
      obtain rfl := Option.some.inj hi
      have v17 : ac.tmps.getD 55 undef = .int .i64 (p.size : Int) := hI.at hall 17 55 rfl rfl (by rfl)
      refine ⟨by rfl, ?_⟩
      go_simp
      refine (put_pos p.size 2 _ (by omega) (by omega) (by omega)).mono ?_
      rintro e w' ⟨gN, cN, rfl, oN, bN⟩
      exact ⟨_, rfl, ⟨⟨_, _, rfl⟩, Rd.own oN⟩, hI.held.trans (bN.mono hI.held.size), VMo.below bN⟩
    | 19, hi =>
      obtain rfl := Option.some.inj hi
      refine ⟨by rfl, ?_⟩
      go_simp
      exact ⟨_, rfl, rfl, hI.held⟩
    | 20, hi =>
      obtain rfl := Option.some.inj hi
      have v19 : ac.tmps.getD 57 undef = .pointer (some ⟨w.heap.size, 5, none⟩) := hI.at hall 19 57 rfl rfl (by rfl)
      have hc := (KC.out wz hI.held).2.2.2.2.2.2.1
      refine ⟨by rfl, ?_⟩
      go_simp
      exact ⟨_, rfl, rfl, hI.held⟩
    | 21, hi =>
      obtain rfl := Option.some.inj hi
      have v20 : ac.tmps.getD 58 undef = .string p := hI.at hall 20 58 rfl rfl (by rfl)
      refine ⟨by rfl, wp_conv_sb 9 22 5 (.tmp 58) rfl p v20 Tryz.underlying9 Tryz.underlying22 Tryz.underlying5 ?_⟩
      have bN := Below.bytesW wz p
      exact ⟨_, rfl, ⟨⟨_, _, rfl⟩, rd_bytesW _ _ (by unfold maxLen; omega)⟩, hI.held.trans (bN.mono hI.held.size), VMo.below bN⟩
    | 22, hi =>
      obtain rfl := Option.some.inj hi
      refine ⟨by rfl, ?_⟩
      go_simp
      exact ⟨_, rfl, rfl, hI.held⟩
    | 23, hi =>
      obtain rfl := Option.some.inj hi
      have v22 : ac.tmps.getD 60 undef = .pointer (some ⟨w.heap.size, 6, none⟩) := hI.at hall 22 60 rfl rfl (by rfl)
      have hc := (KC.out wz hI.held).2.2.2.2.2.2.2.1
      refine ⟨by rfl, ?_⟩
      go_simp
      exact ⟨_, rfl, rfl, hI.held⟩
    | 24, hi =>
      obtain rfl := Option.some.inj hi
      have v23 : ac.tmps.getD 61 undef = .string q := hI.at hall 23 61 rfl rfl (by rfl)
      refine ⟨by rfl, ?_⟩
      go_simp
      exact ⟨_, rfl, rfl, hI.held⟩
    | 25, hi =>
      obtain rfl := Option.some.inj hi
      have v24 : ac.tmps.getD 62 undef = .int .i64 (q.size : Int) := hI.at hall 24 62 rfl rfl (by rfl)
      refine ⟨by rfl, ?_⟩
      go_simp
      refine (put_pos q.size 2 _ (by omega) (by omega) (by omega)).mono ?_
      rintro e w' ⟨gN, cN, rfl, oN, bN⟩
      exact ⟨_, rfl, ⟨⟨_, _, rfl⟩, Rd.own oN⟩, hI.held.trans (bN.mono hI.held.size), VMo.below bN⟩
    | 26, hi =>
      obtain rfl := Option.some.inj hi
      refine ⟨by rfl, ?_⟩
      go_simp
      exact ⟨_, rfl, rfl, hI.held⟩
    | 27, hi =>
      obtain rfl := Option.some.inj hi
      have v26 : ac.tmps.getD 64 undef = .pointer (some ⟨w.heap.size, 6, none⟩) := hI.at hall 26 64 rfl rfl (by rfl)
      have hc := (KC.out wz hI.held).2.2.2.2.2.2.2.1
      refine ⟨by rfl, ?_⟩
      go_simp
      exact ⟨_, rfl, rfl, hI.held⟩
    | 28, hi =>
      obtain rfl := Option.some.inj hi
      have v27 : ac.tmps.getD 65 undef = .string q := hI.at hall 27 65 rfl rfl (by rfl)
      refine ⟨by rfl, wp_conv_sb 9 22 5 (.tmp 65) rfl q v27 Tryz.underlying9 Tryz.underlying22 Tryz.underlying5 ?_⟩
      have bN := Below.bytesW wz q
      exact ⟨_, rfl, ⟨⟨_, _, rfl⟩, rd_bytesW _ _ (by unfold maxLen; omega)⟩, hI.held.trans (bN.mono hI.held.size), VMo.below bN⟩
    | 29, hi =>
      obtain rfl := Option.some.inj hi
      refine ⟨by rfl, ?_⟩
      go_simp
      exact ⟨_, rfl, rfl, hI.held⟩
    | 30, hi =>
      obtain rfl := Option.some.inj hi
      have v29 : ac.tmps.getD 67 undef = .pointer (some ⟨w.heap.size, 7, none⟩) := hI.at hall 29 67 rfl rfl (by rfl)
      have hc := (KC.out wz hI.held).2.2.2.2.2.2.2.2.1
      refine ⟨by rfl, ?_⟩
      go_simp
      exact ⟨_, rfl, ⟨rfl, (KC.out wz hI.held).1⟩, hI.held⟩
    | 31, hi =>
      obtain rfl := Option.some.inj hi
      have v30 : ac.tmps.getD 68 undef = .slice da ds.length dc := (hI.at hall 30 68 rfl rfl (by rfl) : _ ∧ _).1
      refine ⟨by rfl, ?_⟩
      go_simp
      exact ⟨_, rfl, rfl, hI.held⟩
    | 32, hi =>
      obtain rfl := Option.some.inj hi
      have v31 : ac.tmps.getD 69 undef = .int .i64 (ds.length : Int) := hI.at hall 31 69 rfl rfl (by rfl)
      refine ⟨by rfl, ?_⟩
      go_simp
      refine (put_pos ds.length 4 _ (by omega) (by omega) (by omega)).mono ?_
      rintro e w' ⟨gN, cN, rfl, oN, bN⟩
      exact ⟨_, rfl, ⟨⟨_, _, rfl⟩, Rd.own oN⟩, hI.held.trans (bN.mono hI.held.size), VMo.below bN⟩
    | 33, hi =>
      obtain rfl := Option.some.inj hi
      refine ⟨by rfl, ?_⟩
      go_simp
      exact ⟨_, rfl, rfl, hI.held⟩
    | 34, hi =>
      obtain rfl := Option.some.inj hi
      have v33 : ac.tmps.getD 71 undef = .pointer (some ⟨w.heap.size, 7, none⟩) := hI.at hall 33 71 rfl rfl (by rfl)
      have hc := (KC.out wz hI.held).2.2.2.2.2.2.2.2.1
      refine ⟨by rfl, ?_⟩
      go_simp
      exact ⟨_, rfl, ⟨rfl, (KC.out wz hI.held).1⟩, hI.held⟩
    | 35, hi =>
      obtain rfl := Option.some.inj hi
      obtain ⟨⟨x0, y0, e0'⟩, q0⟩ : SlA 1 (le 1 K) (ac.tmps.getD 40 undef) wz := hI.at hall 2 40 rfl rfl (by rfl)
      rw [e0'] at q0
      have Q0 := hide q0
      clear q0
      have n0 := e0'
      rw [Array.getD_eq_getD_getElem?] at n0
      obtain ⟨⟨x1, y1, e1'⟩, q1⟩ : SlA 8 (le 8 (s64 A)) (ac.tmps.getD 43 undef) wz := hI.at hall 5 43 rfl rfl (by rfl)
      rw [e1'] at q1
      have Q1 := hide q1
      clear q1
      have n1 := e1'
      rw [Array.getD_eq_getD_getElem?] at n1
      obtain ⟨⟨x2, y2, e2'⟩, q2⟩ : SlA 8 (le 8 (s64 B)) (ac.tmps.getD 46 undef) wz := hI.at hall 8 46 rfl rfl (by rfl)
      rw [e2'] at q2
      have Q2 := hide q2
      clear q2
      have n2 := e2'
      rw [Array.getD_eq_getD_getElem?] at n2
      obtain ⟨⟨x3, y3, e3'⟩, q3⟩ : SlA 2 (le 2 U) (ac.tmps.getD 49 undef) wz := hI.at hall 11 49 rfl rfl (by rfl)
      rw [e3'] at q3
      have Q3 := hide q3
      clear q3
      have n3 := e3'
      rw [Array.getD_eq_getD_getElem?] at n3
      obtain ⟨⟨x4, y4, e4'⟩, q4⟩ : SlA 2 (le 2 G) (ac.tmps.getD 52 undef) wz := hI.at hall 14 52 rfl rfl (by rfl)
      rw [e4'] at q4
      have Q4 := hide q4
      clear q4
      have n4 := e4'
      rw [Array.getD_eq_getD_getElem?] at n4
      obtain ⟨⟨x5, y5, e5'⟩, q5⟩ : SlA 2 (le 2 p.size) (ac.tmps.getD 56 undef) wz := hI.at hall 18 56 rfl rfl (by rfl)
      rw [e5'] at q5
      have Q5 := hide q5
      clear q5
      have n5 := e5'
      rw [Array.getD_eq_getD_getElem?] at n5
      obtain ⟨⟨x6, y6, e6'⟩, q6⟩ : SlA p.size (strI p) (ac.tmps.getD 59 undef) wz := hI.at hall 21 59 rfl rfl (by rfl)
      rw [e6'] at q6
      have Q6 := hide q6
      clear q6
      have n6 := e6'
      rw [Array.getD_eq_getD_getElem?] at n6
      obtain ⟨⟨x7, y7, e7'⟩, q7⟩ : SlA 2 (le 2 q.size) (ac.tmps.getD 63 undef) wz := hI.at hall 25 63 rfl rfl (by rfl)
      rw [e7'] at q7
      have Q7 := hide q7
      clear q7
      have n7 := e7'
      rw [Array.getD_eq_getD_getElem?] at n7
      obtain ⟨⟨x8, y8, e8'⟩, q8⟩ : SlA q.size (strI q) (ac.tmps.getD 66 undef) wz := hI.at hall 28 66 rfl rfl (by rfl)
      rw [e8'] at q8
      have Q8 := hide q8
      clear q8
      have n8 := e8'
      rw [Array.getD_eq_getD_getElem?] at n8
      obtain ⟨⟨x9, y9, e9'⟩, q9⟩ : SlA 4 (le 4 ds.length) (ac.tmps.getD 70 undef) wz := hI.at hall 32 70 rfl rfl (by rfl)
      rw [e9'] at q9
      have Q9 := hide q9
      clear q9
      have n9 := e9'
      rw [Array.getD_eq_getD_getElem?] at n9
      obtain ⟨e10', q10⟩ : ac.tmps.getD 72 undef = .slice da ds.length dc ∧ Rd .u8 wz (ac.tmps.getD 72 undef) ds := hI.at hall 34 72 rfl rfl (by rfl)
      rw [e10'] at q10
      have Q10 := hide q10
      clear q10
      have n10 := e10'
      rw [Array.getD_eq_getD_getElem?] at n10
      refine ⟨by rfl, ?_⟩
      go_simp
      have bN := (Below.refl wz.heap.size wz).alloc (Nat.le_refl _) (.cells #[.slice (some ⟨x0, 0, none⟩) 1 y0, .slice (some ⟨x1, 0, none⟩) 8 y1, .slice (some ⟨x2, 0, none⟩) 8 y2, .slice (some ⟨x3, 0, none⟩) 2 y3, .slice (some ⟨x4, 0, none⟩) 2 y4, .slice (some ⟨x5, 0, none⟩) 2 y5, .slice (some ⟨x6, 0, none⟩) p.size y6, .slice (some ⟨x7, 0, none⟩) 2 y7, .slice (some ⟨x8, 0, none⟩) q.size y8, .slice (some ⟨x9, 0, none⟩) 4 y9, .slice da ds.length dc] 22)
      have HV := hide (show VMo w.heap.size W.heap.size K A B U G p q da dc ds 35 (.slice (some ⟨wz.heap.size, 0, none⟩) 11 11) (wz.alloc (.cells #[.slice (some ⟨x0, 0, none⟩) 1 y0, .slice (some ⟨x1, 0, none⟩) 8 y1, .slice (some ⟨x2, 0, none⟩) 8 y2, .slice (some ⟨x3, 0, none⟩) 2 y3, .slice (some ⟨x4, 0, none⟩) 2 y4, .slice (some ⟨x5, 0, none⟩) 2 y5, .slice (some ⟨x6, 0, none⟩) p.size y6, .slice (some ⟨x7, 0, none⟩) 2 y7, .slice (some ⟨x8, 0, none⟩) q.size y8, .slice (some ⟨x9, 0, none⟩) 4 y9, .slice da ds.length dc] 22)) from ⟨wz.heap.size, rfl, by simp, [.slice (some ⟨x0, 0, none⟩) 1 y0, .slice (some ⟨x1, 0, none⟩) 8 y1, .slice (some ⟨x2, 0, none⟩) 8 y2, .slice (some ⟨x3, 0, none⟩) 2 y3, .slice (some ⟨x4, 0, none⟩) 2 y4, .slice (some ⟨x5, 0, none⟩) 2 y5, .slice (some ⟨x6, 0, none⟩) p.size y6, .slice (some ⟨x7, 0, none⟩) 2 y7, .slice (some ⟨x8, 0, none⟩) q.size y8, .slice (some ⟨x9, 0, none⟩) 4 y9, .slice da ds.length dc], fun j u hu => by
        rw [cell_of_row _ _ j _ _ _ (heap_alloc_new wz _)]
        simpa using hu, Q0.out.below bN, Q1.out.below bN, Q2.out.below bN, Q3.out.below bN, Q4.out.below bN, Q5.out.below bN, Q6.out.below bN, Q7.out.below bN, Q8.out.below bN, Q9.out.below bN, Q10.out.below bN, trivial⟩)
      exact ⟨_, rfl, HV.out, hI.held.trans (bN.mono hI.held.size), VMo.below bN⟩
    | 36, hi =>
      obtain rfl := Option.some.inj hi
      obtain ⟨g, eB, hgB, vs, hcB, haB⟩ : VMo w.heap.size W.heap.size K A B U G p q da dc ds 35 (ac.tmps.getD 73 undef) wz := hI.at hall 35 73 rfl rfl (by rfl)
      have HA := hide (And.intro hcB haB)
      clear hcB haB
      refine ⟨by rfl, ?_⟩
      go_simp
      refine (joinL_any g 11 11 vs (partsO K A B U G p q ds) _ HA.out.1 HA.out.2 rfl (by omega) HLen.out hgB).mono ?_
      rintro e w' ⟨vJ, rfl, oN, bN⟩
      exact ⟨_, rfl, own_mono oN hI.held.size, hI.held.trans (bN.mono hI.held.size), VMo.below bN⟩
    | 37, hi =>
      obtain rfl := Option.some.inj hi
      have vO : wz.ownsRow W.heap.size 5 1 (ac.tmps.getD 74 undef) (bytesO K A B U G p q ds).length ((bytesO K A B U G p q ds).map (Value.int .u8)) := hI.at hall 36 74 rfl rfl (by rfl)
      generalize hx : ac.tmps.getD 74 undef = x at vO
      have HVO := hide vO
      clear vO
      refine ⟨by rfl, ?_⟩
      go_simp
      exact ⟨_, rfl, HVO.out, hI.held⟩
    | 38, hi =>
      obtain rfl := Option.some.inj hi
      refine ⟨by rfl, ?_⟩
      go_simp
      exact ⟨_, rfl, rfl, hI.held⟩
    | i + 39, hi => cases hi
  case hfin =>
    intro listed ac wz hl hI
    refine NoPanic.normal ?_
    have r2 : wz.ownsRow W.heap.size 5 1 (ac.tmps.getD 2 undef) (bytesO K A B U G p q ds).length ((bytesO K A B U G p q ds).map (Value.int .u8)) := hI.vals 37 _ 2 rfl (hl 37 (by decide)) rfl
    have r3 : ac.tmps.getD 3 undef = .int .i64 0 := hI.vals 38 _ 3 rfl (hl 38 (by decide)) rfl
    have hB2 := hI.held
    have hdf2 := hI.df
    clear hI hl
    go_wp2
    try simp only [Exit.inBlock, Exit.then]
    refine bodyPost_ret (results_tmp2 rfl _ _ _) hdf2 ?_
    exact ⟨_, by rw [r3], own_mono r2 B0.out.size, B0.out.trans (hB2.mono B0.out.size)⟩
end Go.Proofs.YtohmjfagbhnieaaGreatDoor
