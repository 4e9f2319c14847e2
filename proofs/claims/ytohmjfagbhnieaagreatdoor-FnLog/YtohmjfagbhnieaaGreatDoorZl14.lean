/- The program lays an operation down: layOp. -/
import Derived.Test.YtohmjfagbhnieaaGreatDoorZl12
import Derived.Test.YtohmjfagbhnieaaGreatDoorZl05
import Derived.Test.YtohmjfagbhnieaaGreatDoorZl13
import Derived.Lib.SmallJoins
import Derived.Deep.RegionHeld3
namespace Go.Proofs.YtohmjfagbhnieaaGreatDoor
set_option linter.unusedVariables false
set_option linter.unusedSimpArgs false
open Go.RowKit
theorem Below.bytesW (w : World) (s : ByteArray) : Below w.heap.size w (Go.Lib.bytesWorld w 5 s) := Go.Joins.below_bytesWorld _ w _ s (Nat.le_refl _)
theorem wrapN8 (n : Nat) (h : n < 256) : IntKind.u8.wrap (n : Int) = ((n : Nat) : Int) := by simp [IntKind.wrap, IntKind.signed, IntKind.bits]; omega
theorem wrapN16 (n : Nat) (h : n < 65536) : IntKind.u16.wrap (n : Int) = ((n : Nat) : Int) := by simp [IntKind.wrap, IntKind.signed, IntKind.bits]; omega
theorem wrapN32 (n : Nat) (h : n < 4294967296) : IntKind.u32.wrap (n : Int) = ((n : Nat) : Int) := by simp [IntKind.wrap, IntKind.signed, IntKind.bits]; omega
theorem wrapN64 (A : Int) : IntKind.u64.wrap A = ((s64 A : Nat) : Int) := by rw [s64_cast]; simp [IntKind.wrap, IntKind.signed, IntKind.bits]
/-- What the values of the region are. -/
def VLo (bb base : Nat) (K : Nat) (A B : Int) (U G : Nat) (p q : ByteArray) (da : Option Addr) (dc : Nat) (ds : List Int) (i : Nat) (v : Value) (w : World) : Prop := match i with
  | 0 => v = .pointer (some ⟨bb, 0, none⟩)
  | 1 => v = .int .i64 (K : Int)
  | 2 => v = .int .u8 (K : Nat)
  | 3 => SlA 1 (le 1 K) v w
  | 4 => v = .pointer (some ⟨bb, 1, none⟩)
  | 5 => v = .int .i64 A
  | 6 => v = .int .u64 ((s64 A) : Nat)
  | 7 => SlA 8 (le 8 (s64 A)) v w
  | 8 => v = .pointer (some ⟨bb, 2, none⟩)
  | 9 => v = .int .i64 B
  | 10 => v = .int .u64 ((s64 B) : Nat)
  | 11 => SlA 8 (le 8 (s64 B)) v w
  | 12 => v = .pointer (some ⟨bb, 3, none⟩)
  | 13 => v = .int .i64 (U : Int)
  | 14 => v = .int .u16 (U : Nat)
  | 15 => SlA 2 (le 2 U) v w
  | 16 => v = .pointer (some ⟨bb, 4, none⟩)
  | 17 => v = .int .i64 (G : Int)
  | 18 => v = .int .u16 (G : Nat)
  | 19 => SlA 2 (le 2 G) v w
  | 20 => v = .pointer (some ⟨bb, 5, none⟩)
  | 21 => v = .string p
  | 22 => v = .int .i64 (p.size : Int)
  | 23 => v = .int .u16 (p.size : Nat)
  | 24 => SlA 2 (le 2 p.size) v w
  | 25 => v = .pointer (some ⟨bb, 5, none⟩)
  | 26 => v = .string p
  | 27 => SlA p.size (strI p) v w
  | 28 => v = .pointer (some ⟨bb, 6, none⟩)
  | 29 => v = .string q
  | 30 => v = .int .i64 (q.size : Int)
  | 31 => v = .int .u16 (q.size : Nat)
  | 32 => SlA 2 (le 2 q.size) v w
  | 33 => v = .pointer (some ⟨bb, 6, none⟩)
  | 34 => v = .string q
  | 35 => SlA q.size (strI q) v w
  | 36 => v = .pointer (some ⟨bb, 7, none⟩)
  | 37 => v = .slice da ds.length dc ∧ Rd .u8 w v ds
  | 38 => v = .int .i64 (ds.length : Int)
  | 39 => v = .int .u32 (ds.length : Nat)
  | 40 => SlA 4 (le 4 ds.length) v w
  | 41 => v = .pointer (some ⟨bb, 7, none⟩)
  | 42 => v = .slice da ds.length dc ∧ Rd .u8 w v ds
  | 43 => ∃ g, v = .slice (some ⟨g, 0, none⟩) 11 11 ∧ g < w.heap.size ∧ ∃ vs, (∀ j u, vs[j]? = some u → w.cell? ⟨g, j, none⟩ = some u) ∧ AllRd w vs (partsO K A B U G p q ds)
  | 44 => w.ownsRow base 5 1 v (bytesO K A B U G p q ds).length ((bytesO K A B U G p q ds).map (Value.int .u8))
  | 45 => w.ownsRow base 5 1 v (bytesO K A B U G p q ds).length ((bytesO K A B U G p q ds).map (Value.int .u8))
  | _ => False
theorem VLo.below {bb base K : Nat} {A B : Int} {U G : Nat} {p q : ByteArray} {da : Option Addr} {dc : Nat} {ds : List Int} {w w' : World} (hb : Below w.heap.size w w') : ∀ (j : Nat) (u : Value), VLo bb base K A B U G p q da dc ds j u w → VLo bb base K A B U G p q da dc ds j u w'
  | 0, _, h => h
  | 1, _, h => h
  | 2, _, h => h
  | 3, _, h => SlA.below h hb
  | 4, _, h => h
  | 5, _, h => h
  | 6, _, h => h
  | 7, _, h => SlA.below h hb
  | 8, _, h => h
  | 9, _, h => h
  | 10, _, h => h
  | 11, _, h => SlA.below h hb
  | 12, _, h => h
  | 13, _, h => h
  | 14, _, h => h
  | 15, _, h => SlA.below h hb
  | 16, _, h => h
  | 17, _, h => h
  | 18, _, h => h
  | 19, _, h => SlA.below h hb
  | 20, _, h => h
  | 21, _, h => h
  | 22, _, h => h
  | 23, _, h => h
  | 24, _, h => SlA.below h hb
  | 25, _, h => h
  | 26, _, h => h
  | 27, _, h => SlA.below h hb
  | 28, _, h => h
  | 29, _, h => h
  | 30, _, h => h
  | 31, _, h => h
  | 32, _, h => SlA.below h hb
  | 33, _, h => h
  | 34, _, h => h
  | 35, _, h => SlA.below h hb
  | 36, _, h => h
  | 37, _, h => ⟨h.1, h.2.below hb⟩
  | 38, _, h => h
  | 39, _, h => h
  | 40, _, h => SlA.below h hb
  | 41, _, h => h
  | 42, _, h => ⟨h.1, h.2.below hb⟩
  | 43, _, ⟨g, h1, h2, vs, h3, h4⟩ => ⟨g, h1, Nat.lt_of_lt_of_le h2 hb.size, vs, fun j u hu => (hb.cell (p := ⟨g, j, none⟩) h2).trans (h3 j u hu), h4.below hb⟩
  | 44, _, h => own_below h hb
  | 45, _, h => own_below h hb
  | _ + 46, _, h => h
set_option maxRecDepth 100000 in
set_option maxHeartbeats 4000000 in
theorem layOp_any (K : Nat) (A B : Int) (U G : Nat) (p q : ByteArray) (dv : Value) (ds : List Int) (w : World) (h : Rd .u8 w dv ds) (hK : K < 256) (hU : U < 65536) (hG : G < 65536) (hp : p.size ≤ 512) (hq : q.size ≤ 512) (hn : ds.length ≤ 4096) :
    Calls Tryz.prog 42 #[.agg (opC (K : Int) A B (U : Int) (G : Int) p q dv)] w fun e w' => ∃ v', e = .returned v' ∧ w'.ownsRow w.heap.size 5 1 v' (bytesO K A B U G p q ds).length ((bytesO K A B U G p q ds).map (Value.int .u8)) ∧ Below w.heap.size w w' := by
  have HR := hide h
  obtain ⟨da, dc, rfl⟩ : ∃ a c, dv = .slice a ds.length c := by obtain ⟨a, c, e, _⟩ := h; exact ⟨a, c, e⟩
  have HLen := hide (show (partsO K A B U G p q ds).flatten.length ≤ 1000000 from by have := bytesO_len K A B U G p q ds; unfold bytesO at this; omega)
  have K0 := hide (Blk.new w (opC (K : Int) A B (U : Int) (G : Int) p q (.slice da ds.length dc)) 30)
  have B0 := hide (show Below w.heap.size w (w.alloc (.cells (opC (K : Int) A B (U : Int) (G : Int) p q (.slice da ds.length dc)) 30)) from (Below.refl _ _).alloc (Nat.le_refl _) _)
  generalize hW : w.alloc (.cells (opC (K : Int) A B (U : Int) (G : Int) p q (.slice da ds.length dc)) 30) = W at K0 B0
  have KC := hide (show ∀ w', Below (W).heap.size (W) w' → Rd .u8 w' (.slice da ds.length dc) ds ∧ w'.cell? ⟨w.heap.size, 0, none⟩ = some (.int .i64 (K : Int)) ∧ w'.cell? ⟨w.heap.size, 1, none⟩ = some (.int .i64 A) ∧ w'.cell? ⟨w.heap.size, 2, none⟩ = some (.int .i64 B) ∧ w'.cell? ⟨w.heap.size, 3, none⟩ = some (.int .i64 (U : Int)) ∧ w'.cell? ⟨w.heap.size, 4, none⟩ = some (.int .i64 (G : Int)) ∧ w'.cell? ⟨w.heap.size, 5, none⟩ = some (.string p) ∧ w'.cell? ⟨w.heap.size, 6, none⟩ = some (.string q) ∧ w'.cell? ⟨w.heap.size, 7, none⟩ = some (.slice da ds.length dc) ∧ True from fun w' hb => ⟨(HR.out.below B0.out).below hb, ((K0.out.below hb K0.out.lt).cell 0).trans rfl, ((K0.out.below hb K0.out.lt).cell 1).trans rfl, ((K0.out.below hb K0.out.lt).cell 2).trans rfl, ((K0.out.below hb K0.out.lt).cell 3).trans rfl, ((K0.out.below hb K0.out.lt).cell 4).trans rfl, ((K0.out.below hb K0.out.lt).cell 5).trans rfl, ((K0.out.below hb K0.out.lt).cell 6).trans rfl, ((K0.out.below hb K0.out.lt).cell 7).trans rfl, trivial⟩)
  clear h K0
  go_enter Tryz.func42, Tryz.ntmps42
  go_wp2
  try rw [show (w.alloc (.cells (opC (K : Int) A B (U : Int) (G : Int) p q (.slice da ds.length dc)) 30)) = W from hW]
  clear hW
  refine wp_region_noPanic ?_
  refine wp_region_any (by kernel_rfl) ?_
  refine wpAny_invB [(1, .pointer (some ⟨w.heap.size, 0, none⟩))] (fun w' => Below W.heap.size W w') (VLo w.heap.size W.heap.size K A B U G p q da dc ds) 48 [] (by kernel_rfl) ?hstep ?hfin _ _ (by rfl) (by rfl) ((Below.refl _ _).drew) (by intro t v h; simp at h; obtain ⟨rfl, rfl⟩ := h; rfl)
  case hstep =>
    intro i o listed ac wz hi hall hI
    have f1 : ac.tmps.getD 1 undef = .pointer (some ⟨w.heap.size, 0, none⟩) := hI.fix 1 _ (by simp)
    match i, hi with
    | 0, hi =>
      obtain rfl := Option.some.inj hi
      refine ⟨by rfl, ?_⟩
      go_simp
      exact ⟨_, rfl, rfl, hI.held⟩
    | 1, hi =>
      obtain rfl := Option.some.inj hi
      have v0 : ac.tmps.getD 3 undef = .pointer (some ⟨w.heap.size, 0, none⟩) := hI.at hall 0 3 rfl rfl (by rfl)
      have hc := (KC.out wz hI.held).2.1
      refine ⟨by rfl, ?_⟩
      go_simp
      exact ⟨_, rfl, rfl, hI.held⟩
    | 2, hi =>
      obtain rfl := Option.some.inj hi
      have v1 : ac.tmps.getD 4 undef = .int .i64 (K : Int) := hI.at hall 1 4 rfl rfl (by rfl)
      refine ⟨by rfl, ?_⟩
      go_simp
      exact ⟨_, rfl, (by first | rfl | (rw [wrapN8 K hK]; rfl)), hI.held⟩
    | 3, hi =>
      obtain rfl := Option.some.inj hi
      have v2 : ac.tmps.getD 5 undef = .int .u8 (K : Nat) := hI.at hall 2 5 rfl rfl (by rfl)
      refine ⟨by rfl, ?_⟩
      go_simp
      refine (num8_any K _ (by first | omega | exact s64_lt _)).mono ?_
      rintro e w' ⟨gN, cN, rfl, oN, bN⟩
      exact ⟨_, rfl, ⟨⟨_, _, rfl⟩, Rd.own oN⟩, hI.held.trans (bN.mono hI.held.size), VLo.below bN⟩
    | 4, hi =>
      obtain rfl := Option.some.inj hi
      refine ⟨by rfl, ?_⟩
      go_simp
      exact ⟨_, rfl, rfl, hI.held⟩
    | 5, hi =>
      obtain rfl := Option.some.inj hi
      have v4 : ac.tmps.getD 7 undef = .pointer (some ⟨w.heap.size, 1, none⟩) := hI.at hall 4 7 rfl rfl (by rfl)
      have hc := (KC.out wz hI.held).2.2.1
      refine ⟨by rfl, ?_⟩
      go_simp
      exact ⟨_, rfl, rfl, hI.held⟩
    | 6, hi =>
      obtain rfl := Option.some.inj hi
      have v5 : ac.tmps.getD 8 undef = .int .i64 A := hI.at hall 5 8 rfl rfl (by rfl)
      refine ⟨by rfl, ?_⟩
      go_simp
      exact ⟨_, rfl, (by first | rfl | (rw [wrapN64 A]; rfl)), hI.held⟩
    | 7, hi =>
      obtain rfl := Option.some.inj hi
      have v6 : ac.tmps.getD 9 undef = .int .u64 ((s64 A) : Nat) := hI.at hall 6 9 rfl rfl (by rfl)
      refine ⟨by rfl, ?_⟩
      go_simp
      refine (num64_any (s64 A) _ (by first | omega | exact s64_lt _)).mono ?_
      rintro e w' ⟨gN, cN, rfl, oN, bN⟩
      exact ⟨_, rfl, ⟨⟨_, _, rfl⟩, Rd.own oN⟩, hI.held.trans (bN.mono hI.held.size), VLo.below bN⟩
    | 8, hi =>
      obtain rfl := Option.some.inj hi
      refine ⟨by rfl, ?_⟩
      go_simp
      exact ⟨_, rfl, rfl, hI.held⟩
    | 9, hi =>
      obtain rfl := Option.some.inj hi
      have v8 : ac.tmps.getD 11 undef = .pointer (some ⟨w.heap.size, 2, none⟩) := hI.at hall 8 11 rfl rfl (by rfl)
      have hc := (KC.out wz hI.held).2.2.2.1
      refine ⟨by rfl, ?_⟩
      go_simp
      exact ⟨_, rfl, rfl, hI.held⟩
    | 10, hi =>
      obtain rfl := Option.some.inj hi
      have v9 : ac.tmps.getD 12 undef = .int .i64 B := hI.at hall 9 12 rfl rfl (by rfl)
      refine ⟨by rfl, ?_⟩
      go_simp
      exact ⟨_, rfl, (by first | rfl | (rw [wrapN64 B]; rfl)), hI.held⟩
    | 11, hi =>
      obtain rfl := Option.some.inj hi
      have v10 : ac.tmps.getD 13 undef = .int .u64 ((s64 B) : Nat) := hI.at hall 10 13 rfl rfl (by rfl)
      refine ⟨by rfl, ?_⟩
      go_simp
      refine (num64_any (s64 B) _ (by first | omega | exact s64_lt _)).mono ?_
      rintro e w' ⟨gN, cN, rfl, oN, bN⟩
      exact ⟨_, rfl, ⟨⟨_, _, rfl⟩, Rd.own oN⟩, hI.held.trans (bN.mono hI.held.size), VLo.below bN⟩
    | 12, hi =>
      obtain rfl := Option.some.inj hi
      refine ⟨by rfl, ?_⟩
      go_simp
      exact ⟨_, rfl, rfl, hI.held⟩
    | 13, hi =>
      obtain rfl := Option.some.inj hi
      have v12 : ac.tmps.getD 15 undef = .pointer (some ⟨w.heap.size, 3, none⟩) := hI.at hall 12 15 rfl rfl (by rfl)
      have hc := (KC.out wz hI.held).2.2.2.2.1
      refine ⟨by rfl, ?_⟩
      go_simp
      exact ⟨_, rfl, rfl, hI.held⟩
    | 14, hi =>
      obtain rfl := Option.some.inj hi
      have v13 : ac.tmps.getD 16 undef = .int .i64 (U : Int) := hI.at hall 13 16 rfl rfl (by rfl)
      refine ⟨by rfl, ?_⟩
      go_simp
      exact ⟨_, rfl, (by first | rfl | (rw [wrapN16 U hU]; rfl)), hI.held⟩
    | 15, hi =>
      obtain rfl := Option.some.inj hi
      have v14 : ac.tmps.getD 17 undef = .int .u16 (U : Nat) := hI.at hall 14 17 rfl rfl (by rfl)
      refine ⟨by rfl, ?_⟩
      go_simp
      refine (num16_any U _ (by first | omega | exact s64_lt _)).mono ?_
      rintro e w' ⟨gN, cN, rfl, oN, bN⟩
      exact ⟨_, rfl, ⟨⟨_, _, rfl⟩, Rd.own oN⟩, hI.held.trans (bN.mono hI.held.size), VLo.below bN⟩
    | 16, hi =>
      obtain rfl := Option.some.inj hi
      refine ⟨by rfl, ?_⟩
      go_simp
      exact ⟨_, rfl, rfl, hI.held⟩
    | 17, hi =>
      obtain rfl := Option.some.inj hi
      have v16 : ac.tmps.getD 19 undef = .pointer (some ⟨w.heap.size, 4, none⟩) := hI.at hall 16 19 rfl rfl (by rfl)
      have hc := (KC.out wz hI.held).2.2.2.2.2.1
      refine ⟨by rfl, ?_⟩
      go_simp
      exact ⟨_, rfl, rfl, hI.held⟩
    | 18, hi =>
      obtain rfl := Option.some.inj hi
      have v17 : ac.tmps.getD 20 undef = .int .i64 (G : Int) := hI.at hall 17 20 rfl rfl (by rfl)
      refine ⟨by rfl, ?_⟩
      go_simp
      exact ⟨_, rfl, (by first | rfl | (rw [wrapN16 G hG]; rfl)), hI.held⟩
    | 19, hi =>
      obtain rfl := Option.some.inj hi
      have v18 : ac.tmps.getD 21 undef = .int .u16 (G : Nat) := hI.at hall 18 21 rfl rfl (by rfl)
      refine ⟨by rfl, ?_⟩
      go_simp
      refine (num16_any G _ (by first | omega | exact s64_lt _)).mono ?_
      rintro e w' ⟨gN, cN, rfl, oN, bN⟩
      exact ⟨_, rfl, ⟨⟨_, _, rfl⟩, Rd.own oN⟩, hI.held.trans (bN.mono hI.held.size), VLo.below bN⟩
    | 20, hi =>
      obtain rfl := Option.some.inj hi
      refine ⟨by rfl, ?_⟩
      go_simp
      exact ⟨_, rfl, rfl, hI.held⟩
    | 21, hi =>
      obtain rfl := Option.some.inj hi
      have v20 : ac.tmps.getD 23 undef = .pointer (some ⟨w.heap.size, 5, none⟩) := hI.at hall 20 23 rfl rfl (by rfl)
      have hc := (KC.out wz hI.held).2.2.2.2.2.2.1
      refine ⟨by rfl, ?_⟩
      go_simp
      exact ⟨_, rfl, rfl, hI.held⟩
    | 22, hi =>
      obtain rfl := Option.some.inj hi
      have v21 : ac.tmps.getD 24 undef = .string p := hI.at hall 21 24 rfl rfl (by rfl)
      refine ⟨by rfl, ?_⟩
      go_simp
      exact ⟨_, rfl, rfl, hI.held⟩
    | 23, hi =>
      obtain rfl := Option.some.inj hi
      have v22 : ac.tmps.getD 25 undef = .int .i64 (p.size : Int) := hI.at hall 22 25 rfl rfl (by rfl)
      refine ⟨by rfl, ?_⟩
      go_simp
      exact ⟨_, rfl, (by first | rfl | (rw [wrapN16 p.size (by omega)]; rfl)), hI.held⟩
    | 24, hi =>
      obtain rfl := Option.some.inj hi
      have v23 : ac.tmps.getD 26 undef = .int .u16 (p.size : Nat) := hI.at hall 23 26 rfl rfl (by rfl)
      refine ⟨by rfl, ?_⟩
      go_simp
      refine (num16_any p.size _ (by omega)).mono ?_
      rintro e w' ⟨gN, cN, rfl, oN, bN⟩
      exact ⟨_, rfl, ⟨⟨_, _, rfl⟩, Rd.own oN⟩, hI.held.trans (bN.mono hI.held.size), VLo.below bN⟩
    | 25, hi =>
      obtain rfl := Option.some.inj hi
      refine ⟨by rfl, ?_⟩
      go_simp
      exact ⟨_, rfl, rfl, hI.held⟩
    | 26, hi =>
      obtain rfl := Option.some.inj hi
      have v25 : ac.tmps.getD 28 undef = .pointer (some ⟨w.heap.size, 5, none⟩) := hI.at hall 25 28 rfl rfl (by rfl)
      have hc := (KC.out wz hI.held).2.2.2.2.2.2.1
      refine ⟨by rfl, ?_⟩
      go_simp
      exact ⟨_, rfl, rfl, hI.held⟩
    | 27, hi =>
      obtain rfl := Option.some.inj hi
      have v26 : ac.tmps.getD 29 undef = .string p := hI.at hall 26 29 rfl rfl (by rfl)
      refine ⟨by rfl, wp_conv_sb 9 22 5 (.tmp 29) rfl p v26 Tryz.underlying9 Tryz.underlying22 Tryz.underlying5 ?_⟩
      have bN := Below.bytesW wz p
      exact ⟨_, rfl, ⟨⟨_, _, rfl⟩, rd_bytesW _ _ (by unfold maxLen; omega)⟩, hI.held.trans (bN.mono hI.held.size), VLo.below bN⟩
    | 28, hi =>
      obtain rfl := Option.some.inj hi
      refine ⟨by rfl, ?_⟩
      go_simp
      exact ⟨_, rfl, rfl, hI.held⟩
    | 29, hi =>
      obtain rfl := Option.some.inj hi
      have v28 : ac.tmps.getD 31 undef = .pointer (some ⟨w.heap.size, 6, none⟩) := hI.at hall 28 31 rfl rfl (by rfl)
      have hc := (KC.out wz hI.held).2.2.2.2.2.2.2.1
      refine ⟨by rfl, ?_⟩
      go_simp
      exact ⟨_, rfl, rfl, hI.held⟩
    | 30, hi =>
      obtain rfl := Option.some.inj hi
      have v29 : ac.tmps.getD 32 undef = .string q := hI.at hall 29 32 rfl rfl (by rfl)
      refine ⟨by rfl, ?_⟩
      go_simp
      exact ⟨_, rfl, rfl, hI.held⟩
    | 31, hi =>
      obtain rfl := Option.some.inj hi
      have v30 : ac.tmps.getD 33 undef = .int .i64 (q.size : Int) := hI.at hall 30 33 rfl rfl (by rfl)
      refine ⟨by rfl, ?_⟩
      go_simp
      exact ⟨_, rfl, (by first | rfl | (rw [wrapN16 q.size (by omega)]; rfl)), hI.held⟩
    | 32, hi =>
      obtain rfl := Option.some.inj hi
      have v31 : ac.tmps.getD 34 undef = .int .u16 (q.size : Nat) := hI.at hall 31 34 rfl rfl (by rfl)
      refine ⟨by rfl, ?_⟩
      go_simp
      refine (num16_any q.size _ (by omega)).mono ?_
      rintro e w' ⟨gN, cN, rfl, oN, bN⟩
      exact ⟨_, rfl, ⟨⟨_, _, rfl⟩, Rd.own oN⟩, hI.held.trans (bN.mono hI.held.size), VLo.below bN⟩
    | 33, hi =>
      obtain rfl := Option.some.inj hi
      refine ⟨by rfl, ?_⟩
      go_simp
      exact ⟨_, rfl, rfl, hI.held⟩
    | 34, hi =>
      obtain rfl := Option.some.inj hi
      have v33 : ac.tmps.getD 36 undef = .pointer (some ⟨w.heap.size, 6, none⟩) := hI.at hall 33 36 rfl rfl (by rfl)
      have hc := (KC.out wz hI.held).2.2.2.2.2.2.2.1
      refine ⟨by rfl, ?_⟩
      go_simp
      exact ⟨_, rfl, rfl, hI.held⟩
    | 35, hi =>
      obtain rfl := Option.some.inj hi
      have v34 : ac.tmps.getD 37 undef = .string q := hI.at hall 34 37 rfl rfl (by rfl)
      refine ⟨by rfl, wp_conv_sb 9 22 5 (.tmp 37) rfl q v34 Tryz.underlying9 Tryz.underlying22 Tryz.underlying5 ?_⟩
      have bN := Below.bytesW wz q
      exact ⟨_, rfl, ⟨⟨_, _, rfl⟩, rd_bytesW _ _ (by unfold maxLen; omega)⟩, hI.held.trans (bN.mono hI.held.size), VLo.below bN⟩
    | 36, hi =>
      obtain rfl := Option.some.inj hi
      refine ⟨by rfl, ?_⟩
      go_simp
      exact ⟨_, rfl, rfl, hI.held⟩
    | 37, hi =>
      obtain rfl := Option.some.inj hi
      have v36 : ac.tmps.getD 39 undef = .pointer (some ⟨w.heap.size, 7, none⟩) := hI.at hall 36 39 rfl rfl (by rfl)
      have hc := (KC.out wz hI.held).2.2.2.2.2.2.2.2.1
      refine ⟨by rfl, ?_⟩
      go_simp
      exact ⟨_, rfl, ⟨rfl, (KC.out wz hI.held).1⟩, hI.held⟩
    | 38, hi =>
      obtain rfl := Option.some.inj hi
      have v37 : ac.tmps.getD 40 undef = .slice da ds.length dc := (hI.at hall 37 40 rfl rfl (by rfl) : _ ∧ _).1
      refine ⟨by rfl, ?_⟩
      go_simp
      exact ⟨_, rfl, rfl, hI.held⟩
    | 39, hi =>
      obtain rfl := Option.some.inj hi
      have v38 : ac.tmps.getD 41 undef = .int .i64 (ds.length : Int) := hI.at hall 38 41 rfl rfl (by rfl)
      refine ⟨by rfl, ?_⟩
      go_simp
      exact ⟨_, rfl, (by first | rfl | (rw [wrapN32 ds.length (by omega)]; rfl)), hI.held⟩
    | 40, hi =>
      obtain rfl := Option.some.inj hi
      have v39 : ac.tmps.getD 42 undef = .int .u32 (ds.length : Nat) := hI.at hall 39 42 rfl rfl (by rfl)
      refine ⟨by rfl, ?_⟩
      go_simp
      refine (num32_any ds.length _ (by omega)).mono ?_
      rintro e w' ⟨gN, cN, rfl, oN, bN⟩
      exact ⟨_, rfl, ⟨⟨_, _, rfl⟩, Rd.own oN⟩, hI.held.trans (bN.mono hI.held.size), VLo.below bN⟩
    | 41, hi =>
      obtain rfl := Option.some.inj hi
      refine ⟨by rfl, ?_⟩
      go_simp
      exact ⟨_, rfl, rfl, hI.held⟩
    | 42, hi =>
      obtain rfl := Option.some.inj hi
      have v41 : ac.tmps.getD 44 undef = .pointer (some ⟨w.heap.size, 7, none⟩) := hI.at hall 41 44 rfl rfl (by rfl)
      have hc := (KC.out wz hI.held).2.2.2.2.2.2.2.2.1
      refine ⟨by rfl, ?_⟩
      go_simp
      exact ⟨_, rfl, ⟨rfl, (KC.out wz hI.held).1⟩, hI.held⟩
    | 43, hi =>
      obtain rfl := Option.some.inj hi
      obtain ⟨⟨x0, y0, e0'⟩, q0⟩ : SlA 1 (le 1 K) (ac.tmps.getD 6 undef) wz := hI.at hall 3 6 rfl rfl (by rfl)
      rw [e0'] at q0
      have Q0 := hide q0
      clear q0
      have n0 := e0'
      rw [Array.getD_eq_getD_getElem?] at n0
      obtain ⟨⟨x1, y1, e1'⟩, q1⟩ : SlA 8 (le 8 (s64 A)) (ac.tmps.getD 10 undef) wz := hI.at hall 7 10 rfl rfl (by rfl)
      rw [e1'] at q1
      have Q1 := hide q1
      clear q1
      have n1 := e1'
      rw [Array.getD_eq_getD_getElem?] at n1
      obtain ⟨⟨x2, y2, e2'⟩, q2⟩ : SlA 8 (le 8 (s64 B)) (ac.tmps.getD 14 undef) wz := hI.at hall 11 14 rfl rfl (by rfl)
      rw [e2'] at q2
      have Q2 := hide q2
      clear q2
      have n2 := e2'
      rw [Array.getD_eq_getD_getElem?] at n2
      obtain ⟨⟨x3, y3, e3'⟩, q3⟩ : SlA 2 (le 2 U) (ac.tmps.getD 18 undef) wz := hI.at hall 15 18 rfl rfl (by rfl)
      rw [e3'] at q3
      have Q3 := hide q3
      clear q3
      have n3 := e3'
      rw [Array.getD_eq_getD_getElem?] at n3
      obtain ⟨⟨x4, y4, e4'⟩, q4⟩ : SlA 2 (le 2 G) (ac.tmps.getD 22 undef) wz := hI.at hall 19 22 rfl rfl (by rfl)
      rw [e4'] at q4
      have Q4 := hide q4
      clear q4
      have n4 := e4'
      rw [Array.getD_eq_getD_getElem?] at n4
      obtain ⟨⟨x5, y5, e5'⟩, q5⟩ : SlA 2 (le 2 p.size) (ac.tmps.getD 27 undef) wz := hI.at hall 24 27 rfl rfl (by rfl)
      rw [e5'] at q5
      have Q5 := hide q5
      clear q5
      have n5 := e5'
      rw [Array.getD_eq_getD_getElem?] at n5
      obtain ⟨⟨x6, y6, e6'⟩, q6⟩ : SlA p.size (strI p) (ac.tmps.getD 30 undef) wz := hI.at hall 27 30 rfl rfl (by rfl)
      rw [e6'] at q6
      have Q6 := hide q6
      clear q6
      have n6 := e6'
      rw [Array.getD_eq_getD_getElem?] at n6
      obtain ⟨⟨x7, y7, e7'⟩, q7⟩ : SlA 2 (le 2 q.size) (ac.tmps.getD 35 undef) wz := hI.at hall 32 35 rfl rfl (by rfl)
      rw [e7'] at q7
      have Q7 := hide q7
      clear q7
      have n7 := e7'
      rw [Array.getD_eq_getD_getElem?] at n7
      obtain ⟨⟨x8, y8, e8'⟩, q8⟩ : SlA q.size (strI q) (ac.tmps.getD 38 undef) wz := hI.at hall 35 38 rfl rfl (by rfl)
      rw [e8'] at q8
      have Q8 := hide q8
      clear q8
      have n8 := e8'
      rw [Array.getD_eq_getD_getElem?] at n8
      obtain ⟨⟨x9, y9, e9'⟩, q9⟩ : SlA 4 (le 4 ds.length) (ac.tmps.getD 43 undef) wz := hI.at hall 40 43 rfl rfl (by rfl)
      rw [e9'] at q9
      have Q9 := hide q9
      clear q9
      have n9 := e9'
      rw [Array.getD_eq_getD_getElem?] at n9
      obtain ⟨e10', q10⟩ : ac.tmps.getD 45 undef = .slice da ds.length dc ∧ Rd .u8 wz (ac.tmps.getD 45 undef) ds := hI.at hall 42 45 rfl rfl (by rfl)
      rw [e10'] at q10
      have Q10 := hide q10
      clear q10
      have n10 := e10'
      rw [Array.getD_eq_getD_getElem?] at n10
      refine ⟨by rfl, ?_⟩
      go_simp
      have bN := (Below.refl wz.heap.size wz).alloc (Nat.le_refl _) (.cells #[.slice (some ⟨x0, 0, none⟩) 1 y0, .slice (some ⟨x1, 0, none⟩) 8 y1, .slice (some ⟨x2, 0, none⟩) 8 y2, .slice (some ⟨x3, 0, none⟩) 2 y3, .slice (some ⟨x4, 0, none⟩) 2 y4, .slice (some ⟨x5, 0, none⟩) 2 y5, .slice (some ⟨x6, 0, none⟩) p.size y6, .slice (some ⟨x7, 0, none⟩) 2 y7, .slice (some ⟨x8, 0, none⟩) q.size y8, .slice (some ⟨x9, 0, none⟩) 4 y9, .slice da ds.length dc] 22)
      have HV := hide (show VLo w.heap.size W.heap.size K A B U G p q da dc ds 43 (.slice (some ⟨wz.heap.size, 0, none⟩) 11 11) (wz.alloc (.cells #[.slice (some ⟨x0, 0, none⟩) 1 y0, .slice (some ⟨x1, 0, none⟩) 8 y1, .slice (some ⟨x2, 0, none⟩) 8 y2, .slice (some ⟨x3, 0, none⟩) 2 y3, .slice (some ⟨x4, 0, none⟩) 2 y4, .slice (some ⟨x5, 0, none⟩) 2 y5, .slice (some ⟨x6, 0, none⟩) p.size y6, .slice (some ⟨x7, 0, none⟩) 2 y7, .slice (some ⟨x8, 0, none⟩) q.size y8, .slice (some ⟨x9, 0, none⟩) 4 y9, .slice da ds.length dc] 22)) from ⟨wz.heap.size, rfl, by simp, [.slice (some ⟨x0, 0, none⟩) 1 y0, .slice (some ⟨x1, 0, none⟩) 8 y1, .slice (some ⟨x2, 0, none⟩) 8 y2, .slice (some ⟨x3, 0, none⟩) 2 y3, .slice (some ⟨x4, 0, none⟩) 2 y4, .slice (some ⟨x5, 0, none⟩) 2 y5, .slice (some ⟨x6, 0, none⟩) p.size y6, .slice (some ⟨x7, 0, none⟩) 2 y7, .slice (some ⟨x8, 0, none⟩) q.size y8, .slice (some ⟨x9, 0, none⟩) 4 y9, .slice da ds.length dc], fun j u hu => by
        rw [cell_of_row _ _ j _ _ _ (heap_alloc_new wz _)]
        simpa using hu, Q0.out.below bN, Q1.out.below bN, Q2.out.below bN, Q3.out.below bN, Q4.out.below bN, Q5.out.below bN, Q6.out.below bN, Q7.out.below bN, Q8.out.below bN, Q9.out.below bN, Q10.out.below bN, trivial⟩)
      exact ⟨_, rfl, HV.out, hI.held.trans (bN.mono hI.held.size), VLo.below bN⟩
    | 44, hi =>
      obtain rfl := Option.some.inj hi
      obtain ⟨g, eB, hgB, vs, hcB, haB⟩ : VLo w.heap.size W.heap.size K A B U G p q da dc ds 43 (ac.tmps.getD 46 undef) wz := hI.at hall 43 46 rfl rfl (by rfl)
      have HA := hide (And.intro hcB haB)
      clear hcB haB
      refine ⟨by rfl, ?_⟩
      go_simp
      refine (tog_any g 11 11 vs (partsO K A B U G p q ds) _ HA.out.1 HA.out.2 rfl (by omega) HLen.out hgB).mono ?_
      rintro e w' ⟨vJ, rfl, oN, bN⟩
      exact ⟨_, rfl, own_mono oN hI.held.size, hI.held.trans (bN.mono hI.held.size), VLo.below bN⟩
    | 45, hi =>
      obtain rfl := Option.some.inj hi
      have vO : wz.ownsRow W.heap.size 5 1 (ac.tmps.getD 47 undef) (bytesO K A B U G p q ds).length ((bytesO K A B U G p q ds).map (Value.int .u8)) := hI.at hall 44 47 rfl rfl (by rfl)
      generalize hx : ac.tmps.getD 47 undef = x at vO
      have HVO := hide vO
      clear vO
      refine ⟨by rfl, ?_⟩
      go_simp
      exact ⟨_, rfl, HVO.out, hI.held⟩
    | i + 46, hi => cases hi
  case hfin =>
    intro listed ac wz hl hI
    refine NoPanic.normal ?_
    have r2 : wz.ownsRow W.heap.size 5 1 (ac.tmps.getD 2 undef) (bytesO K A B U G p q ds).length ((bytesO K A B U G p q ds).map (Value.int .u8)) := hI.vals 45 _ 2 rfl (hl 45 (by decide)) rfl
    have hB2 := hI.held
    have hdf2 := hI.df
    clear hI hl
    go_wp2
    try simp only [Exit.inBlock, Exit.then]
    refine bodyPost_ret (results_tmp rfl _ _ _) hdf2 ?_
    exact ⟨_, rfl, own_mono r2 B0.out.size, B0.out.trans (hB2.mono B0.out.size)⟩
end Go.Proofs.YtohmjfagbhnieaaGreatDoor
