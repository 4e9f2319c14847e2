/- openDirectory of a length that is wrong; the program's DirCheck; the law. A name's slot (mathematics): what the model's search finds is what the program's map holds. The model's l06At and DirFind. DirFind of the model. DirFind of the program; the law. -/
import Derived.Test.YtplieplmhdfndaaGreatDoorZg31
import Derived.Test.YtplieplmhdfndaaGreatDoorZg16
import Derived.Test.YtplieplmhdfndaaGreatDoorZg28
namespace Go.Proofs.YtplieplmhdfndaaGreatDoor
set_option linter.unusedVariables false
set_option linter.unusedSimpArgs false
open Go.RowKit Go.Shelf
attribute [local go_sem] Oper.semAt_some

set_option maxRecDepth 100000 in
set_option maxHeartbeats 4000000 in
theorem openDir_odd (cap : Nat) (a : Option Addr) (zs : List Int) (w : World) (h : Rd .u8 w (.slice a zs.length cap) zs) (h512 : zs.length % 512 ≠ 0) :
    Calls Tryz.prog 52 #[.slice a zs.length cap] w fun e w' => ∃ pa ev, e = .returned (.tuple #[.pointer pa, ev]) ∧ (∃ m, Flt w' w.heap.size m ev 21) ∧ Below w.heap.size w w' := by
  have hm := h.len
  unfold maxLen at hm
  have h512i : ((((zs.length : Int) % 512)) == 0) = false := by simp; omega
  obtain ⟨wR, hwR⟩ : ∃ wR, wR = (w.alloc (.cells #[.pointer none] 79)).alloc (.cells #[.nilIface] 72) := ⟨_, rfl⟩
  have hsR : wR.heap.size = w.heap.size + 1 + 1 := by rw [hwR]; simp
  have hbR : Below w.heap.size w wR := by rw [hwR]; exact ((Below.refl _ _).alloc (Nat.le_refl _) _).alloc (by simp) _
  have hx1 : Boxed wR w.heap.size 79 (.pointer none) := by rw [hwR]; exact (Boxed.new w _ _).alloc _
  have hx2 : Boxed wR (w.heap.size + 1) 72 .nilIface := by
    have h := Boxed.new (w.alloc (.cells #[.pointer none] 79)) 72 .nilIface
    rw [World.size_alloc] at h
    rw [hwR]; exact h
  have K0 := hide (And.intro (Ck.fresh wR 21 127) (hbR.alloc hbR.size (.cells #[.int .i64 21, .nilIface] 127)))
  have HWR := hide hwR
  have HXB := hide (And.intro hx1 hx2)
  clear hwR hbR hx1 hx2
  refine (callsIn_wide (n := 6)).1 ?_
  refine callsIn_of_wp_marks Tryz.func52 rfl trivial ?_ rfl
  simp only [Tryz.ntmps52, List.size_toArray, List.length_cons, List.length_nil, Nat.reduceAdd, Nat.reduceSub, Array.replicate_succ, Array.replicate_zero, List.push_toArray, List.append_toArray, List.nil_append, List.cons_append]
  gi_wp2_with (refine ⟨trivial, ?_⟩; gi_at_call 86; fail)
  refine ⟨trivial, ?_⟩
  rw [← HWR.out, ← hsR]
  refine (callsIn_wide.2 (need_any wR.heap.size (wR.heap.size + 1) _ 21 true false _ K0.out.1 (by omega) (by simp))).mono ?_
  rintro e w1 ⟨rfl, hc1, ht1⟩
  have K1 := hide (And.intro hc1 (show Below w.heap.size w w1 from K0.out.2.grown ht1.1 (by simp; omega) (fun k e => by cases e; omega)))
  have hs1 : wR.heap.size + 1 ≤ w1.heap.size := by have := ht1.1.size; simp at this; omega
  have KX := hide (And.intro (Boxed.kept (HXB.out.1.alloc (.cells #[.int .i64 21, .nilIface] 127)) ht1.1 (by simp; omega)) (Boxed.kept (HXB.out.2.alloc (.cells #[.int .i64 21, .nilIface] 127)) ht1.1 (by simp; omega)))
  clear hc1 ht1 K0
  rw [Bool.true_and] at K1
  obtain ⟨e1, c1, hf1⟩ := K1.out.1.fault
  rw [hsR] at c1
  rcases hf1 with ⟨hf1, _⟩ | ⟨_, m1, hf1⟩
  · cases hf1
  obtain ⟨t6, x6, rfl⟩ := hf1.iface
  have HF := hide hf1
  clear hf1
  gi_wp2
  refine wpIn_region_any (by kernel_rfl) ?_
  change wpAnyIn _ _ _ _ _ _ _ _ _ (World.drew w1)
  refine wpAnyIn_invB [(2, .pointer (some ⟨w.heap.size, 0, none⟩)), (3, .pointer (some ⟨w.heap.size + 1, 0, none⟩)), (4, .pointer (some ⟨w.heap.size + 1 + 1, 0, none⟩))] (fun w' => (∀ k, k ≠ w.heap.size → k ≠ w.heap.size + 1 → w'.heap[k]? = w1.heap[k]?) ∧ w'.heap.size = w1.heap.size ∧ (w'.os = w1.os ∧ w'.tape = w1.tape ∧ w'.output = w1.output) ∧ Boxed w' w.heap.size 79 (.pointer none) ∧ ∃ u, Boxed w' (w.heap.size + 1) 72 u)
    (fun i v w' => (i = 0 → v = .pointer (some ⟨w.heap.size + 1 + 1, 1, none⟩)) ∧ (i = 1 → v = (.iface t6 (.pointer (some x6)))) ∧ (i = 3 → Boxed w' (w.heap.size + 1) 72 (.iface t6 (.pointer (some x6))))) 71 [] (by kernel_rfl) ?hstep3 ?hfin3 _ _ rfl rfl ⟨fun _ _ _ => rfl, rfl, ⟨rfl, rfl, rfl⟩, KX.out.1, _, KX.out.2⟩ (by
    intro t v h
    simp only [List.mem_cons, List.not_mem_nil, or_false, Prod.mk.injEq] at h
    rcases h with ⟨rfl, rfl⟩ | ⟨rfl, rfl⟩ | ⟨rfl, rfl⟩ <;> rfl)
  case hstep3 =>
    intro i o listed ac wz hi hall hI3
    obtain ⟨hb3, hsz3, hos3, h13, u3, h23⟩ := hI3.held
    have f2 : ac.tmps.getD 2 undef = .pointer (some ⟨w.heap.size, 0, none⟩) := hI3.fix 2 _ (by simp)
    have f3 : ac.tmps.getD 3 undef = .pointer (some ⟨w.heap.size + 1, 0, none⟩) := hI3.fix 3 _ (by simp)
    have f4 : ac.tmps.getD 4 undef = .pointer (some ⟨w.heap.size + 1 + 1, 0, none⟩) := hI3.fix 4 _ (by simp)
    have HI3 := hide hI3
    match i, hi with
    | 0, hi =>
      obtain rfl := Option.some.inj hi
      exact ⟨by rfl, (fun c => by intro h; cases h), (fun c => by intro h; cases h), .value (.pointer (some ⟨w.heap.size + 1 + 1, 1, none⟩)), _, wz, by go_simp, .inl rfl, ⟨fun _ => rfl, fun h => (by cases h), fun h => (by cases h)⟩, HI3.out.held, fun _ _ h => h⟩
    | 1, hi =>
      obtain rfl := Option.some.inj hi
      have v0 : ac.tmps.getD 25 undef = .pointer (some ⟨w.heap.size + 1 + 1, 1, none⟩) := (HI3.out.at hall 0 25 rfl rfl (by rfl)).1 rfl
      have hc3 : wz.cell? ⟨w.heap.size + 1 + 1, 1, none⟩ = some (.iface t6 (.pointer (some x6))) := (World.cell?_of_block (a := ⟨w.heap.size + 1 + 1, 1, none⟩) (hb3 _ (by simp; omega) (by simp))).trans c1
      exact ⟨by rfl, (fun c => by intro h; cases h), (fun c => by intro h; cases h), .value (.iface t6 (.pointer (some x6))), _, wz, by go_simp, .inl rfl, ⟨fun h => (by cases h), fun _ => rfl, fun h => (by cases h)⟩, HI3.out.held, fun _ _ h => h⟩
    | 2, hi =>
      obtain rfl := Option.some.inj hi
      have hc3 := h13.cell
      have hf3 := h13.frozen
      refine ⟨by rfl, (fun c => by intro h; cases h), (fun c => by intro h; cases h), .skip, undef, wz.setCell ⟨w.heap.size, 0, none⟩ (.pointer none), by go_simp, .inr ⟨rfl, rfl⟩, ⟨fun h => (by cases h), fun h => (by cases h), fun h => (by cases h)⟩, ⟨fun k h1 h2 => (Below.heap_setCell wz ⟨w.heap.size, 0, none⟩ _ k (fun e => h1 e)).trans (hb3 k h1 h2), by simpa using hsz3, hos3, h13.set _, u3, h23.other (by omega) _⟩, fun j v h => ⟨h.1, h.2.1, fun hj => (h.2.2 hj).other (by omega) _⟩⟩
    | 3, hi =>
      obtain rfl := Option.some.inj hi
      have v1 : ac.tmps.getD 26 undef = (.iface t6 (.pointer (some x6))) := (HI3.out.at hall 1 26 rfl rfl (by rfl)).2.1 rfl
      have hc3 := h23.cell
      have hf3 := h23.frozen
      refine ⟨by rfl, (fun c => by intro h; cases h), (fun c => by intro h; cases h), .skip, undef, wz.setCell ⟨w.heap.size + 1, 0, none⟩ (.iface t6 (.pointer (some x6))), by go_simp, .inr ⟨rfl, rfl⟩, ⟨fun h => (by cases h), fun h => (by cases h), fun _ => h23.set _⟩, ⟨fun k h1 h2 => (Below.heap_setCell wz ⟨w.heap.size + 1, 0, none⟩ _ k (fun e => h2 e)).trans (hb3 k h1 h2), by simpa using hsz3, hos3, h13.other (by omega) _, _, h23.set _⟩, fun j v h => ⟨h.1, h.2.1, fun _ => h23.set _⟩⟩
    | k + 4, hi => exact absurd hi (by simp)
  case hfin3 =>
    intro listed ac wz hall hI3
    obtain ⟨hb3, hsz3, hos3, h13, u3, h23⟩ := hI3.held
    obtain ⟨v3, hv3⟩ := hI3.seen 3 _ rfl (hall 3 (by decide))
    have f2 := hI3.fix 2 (.pointer (some ⟨w.heap.size, 0, none⟩)) (by simp)
    have f3 := hI3.fix 3 (.pointer (some ⟨w.heap.size + 1, 0, none⟩)) (by simp)
    have hdf := hI3.df
    have hr2 := hv3.2.2 rfl
    have HZ := hide (And.intro hb3 (And.intro hsz3 (And.intro hos3 (And.intro h13 (And.intro hr2 (And.intro f2 f3))))))
    clear hI3 hall hb3 hsz3 hos3 h13 h23 hv3 hr2 f2 f3
    obtain ⟨tm, df⟩ := ac
    simp only at hdf
    subst hdf
    gi_wp2
    refine ⟨_, results_box2 rfl _ _ w.heap.size (w.heap.size + 1) (.pointer none) (.iface t6 (.pointer (some x6))) HZ.out.2.2.2.2.2.1 HZ.out.2.2.2.2.2.2 HZ.out.2.2.2.1 HZ.out.2.2.2.2.1, _, _, rfl, ⟨m1, ?_⟩, ?_⟩
    · exact Flt.mono (lo' := w.heap.size) (by omega) (HF.out.keep (fun k o v hk hc => (World.cell?_of_block (a := ⟨k, o, none⟩) (HZ.out.1 k (by omega) (by omega))).trans hc))
    · exact ⟨HZ.out.2.2.1.1.trans K1.out.2.os, HZ.out.2.2.1.2.1.trans K1.out.2.tape, HZ.out.2.2.1.2.2.trans K1.out.2.output, by rw [HZ.out.2.1]; exact K1.out.2.size, fun k hk => (HZ.out.1 k (by omega) (by omega)).trans (K1.out.2.block k hk)⟩
set_option maxRecDepth 100000 in
set_option maxHeartbeats 4000000 in
theorem openDir_long (cap : Nat) (a : Option Addr) (zs : List Int) (w : World) (h : Rd .u8 w (.slice a zs.length cap) zs) (h512 : zs.length % 512 = 0) (hl : 262144 < zs.length) :
    Calls Tryz.prog 52 #[.slice a zs.length cap] w fun e w' => ∃ pa ev, e = .returned (.tuple #[.pointer pa, ev]) ∧ (∃ m, Flt w' w.heap.size m ev 21) ∧ Below w.heap.size w w' := by
  have hm := h.len
  unfold maxLen at hm
  have h512i : ((zs.length : Int) % 512) = 0 := by omega
  have hli : ¬ (zs.length : Int) ≤ 262144 := by omega
  obtain ⟨wR, hwR⟩ : ∃ wR, wR = (w.alloc (.cells #[.pointer none] 79)).alloc (.cells #[.nilIface] 72) := ⟨_, rfl⟩
  have hsR : wR.heap.size = w.heap.size + 1 + 1 := by rw [hwR]; simp
  have hbR : Below w.heap.size w wR := by rw [hwR]; exact ((Below.refl _ _).alloc (Nat.le_refl _) _).alloc (by simp) _
  have hx1 : Boxed wR w.heap.size 79 (.pointer none) := by rw [hwR]; exact (Boxed.new w _ _).alloc _
  have hx2 : Boxed wR (w.heap.size + 1) 72 .nilIface := by
    have h := Boxed.new (w.alloc (.cells #[.pointer none] 79)) 72 .nilIface
    rw [World.size_alloc] at h
    rw [hwR]; exact h
  have K0 := hide (And.intro (Ck.fresh wR 21 127) (hbR.alloc hbR.size (.cells #[.int .i64 21, .nilIface] 127)))
  have HWR := hide hwR
  have HXB := hide (And.intro hx1 hx2)
  clear hwR hbR hx1 hx2
  refine (callsIn_wide (n := 6)).1 ?_
  refine callsIn_of_wp_marks Tryz.func52 rfl trivial ?_ rfl
  simp only [Tryz.ntmps52, List.size_toArray, List.length_cons, List.length_nil, Nat.reduceAdd, Nat.reduceSub, Array.replicate_succ, Array.replicate_zero, List.push_toArray, List.append_toArray, List.nil_append, List.cons_append]
  gi_wp2_with (refine ⟨trivial, ?_⟩; gi_at_call 86; fail)
  refine ⟨trivial, ?_⟩
  rw [← HWR.out, ← hsR]
  refine (callsIn_wide.2 (need_any wR.heap.size (wR.heap.size + 1) _ 21 true false _ K0.out.1 (by omega) (by simp))).mono ?_
  rintro e w1 ⟨rfl, hc1, ht1⟩
  have K1 := hide (And.intro hc1 (show Below w.heap.size w w1 from K0.out.2.grown ht1.1 (by simp; omega) (fun k e => by cases e; omega)))
  have hs1 : wR.heap.size + 1 ≤ w1.heap.size := by have := ht1.1.size; simp at this; omega
  have KX := hide (And.intro (Boxed.kept (HXB.out.1.alloc (.cells #[.int .i64 21, .nilIface] 127)) ht1.1 (by simp; omega)) (Boxed.kept (HXB.out.2.alloc (.cells #[.int .i64 21, .nilIface] 127)) ht1.1 (by simp; omega)))
  clear hc1 ht1 K0
  rw [Bool.true_and] at K1
  obtain ⟨e1, c1, hf1⟩ := K1.out.1.fault
  rw [hsR] at c1
  rcases hf1 with ⟨hf1, _⟩ | ⟨_, m1, hf1⟩
  · cases hf1
  obtain ⟨t6, x6, rfl⟩ := hf1.iface
  have HF := hide hf1
  clear hf1
  gi_wp2
  refine wpIn_region_any (by kernel_rfl) ?_
  change wpAnyIn _ _ _ _ _ _ _ _ _ (World.drew w1)
  refine wpAnyIn_invB [(2, .pointer (some ⟨w.heap.size, 0, none⟩)), (3, .pointer (some ⟨w.heap.size + 1, 0, none⟩)), (4, .pointer (some ⟨w.heap.size + 1 + 1, 0, none⟩))] (fun w' => (∀ k, k ≠ w.heap.size → k ≠ w.heap.size + 1 → w'.heap[k]? = w1.heap[k]?) ∧ w'.heap.size = w1.heap.size ∧ (w'.os = w1.os ∧ w'.tape = w1.tape ∧ w'.output = w1.output) ∧ Boxed w' w.heap.size 79 (.pointer none) ∧ ∃ u, Boxed w' (w.heap.size + 1) 72 u)
    (fun i v w' => (i = 0 → v = .pointer (some ⟨w.heap.size + 1 + 1, 1, none⟩)) ∧ (i = 1 → v = (.iface t6 (.pointer (some x6)))) ∧ (i = 3 → Boxed w' (w.heap.size + 1) 72 (.iface t6 (.pointer (some x6))))) 71 [] (by kernel_rfl) ?hstep3 ?hfin3 _ _ rfl rfl ⟨fun _ _ _ => rfl, rfl, ⟨rfl, rfl, rfl⟩, KX.out.1, _, KX.out.2⟩ (by
    intro t v h
    simp only [List.mem_cons, List.not_mem_nil, or_false, Prod.mk.injEq] at h
    rcases h with ⟨rfl, rfl⟩ | ⟨rfl, rfl⟩ | ⟨rfl, rfl⟩ <;> rfl)
  case hstep3 =>
    intro i o listed ac wz hi hall hI3
    obtain ⟨hb3, hsz3, hos3, h13, u3, h23⟩ := hI3.held
    have f2 : ac.tmps.getD 2 undef = .pointer (some ⟨w.heap.size, 0, none⟩) := hI3.fix 2 _ (by simp)
    have f3 : ac.tmps.getD 3 undef = .pointer (some ⟨w.heap.size + 1, 0, none⟩) := hI3.fix 3 _ (by simp)
    have f4 : ac.tmps.getD 4 undef = .pointer (some ⟨w.heap.size + 1 + 1, 0, none⟩) := hI3.fix 4 _ (by simp)
    have HI3 := hide hI3
    match i, hi with
    | 0, hi =>
      obtain rfl := Option.some.inj hi
      exact ⟨by rfl, (fun c => by intro h; cases h), (fun c => by intro h; cases h), .value (.pointer (some ⟨w.heap.size + 1 + 1, 1, none⟩)), _, wz, by go_simp, .inl rfl, ⟨fun _ => rfl, fun h => (by cases h), fun h => (by cases h)⟩, HI3.out.held, fun _ _ h => h⟩
    | 1, hi =>
      obtain rfl := Option.some.inj hi
      have v0 : ac.tmps.getD 25 undef = .pointer (some ⟨w.heap.size + 1 + 1, 1, none⟩) := (HI3.out.at hall 0 25 rfl rfl (by rfl)).1 rfl
      have hc3 : wz.cell? ⟨w.heap.size + 1 + 1, 1, none⟩ = some (.iface t6 (.pointer (some x6))) := (World.cell?_of_block (a := ⟨w.heap.size + 1 + 1, 1, none⟩) (hb3 _ (by simp; omega) (by simp))).trans c1
      exact ⟨by rfl, (fun c => by intro h; cases h), (fun c => by intro h; cases h), .value (.iface t6 (.pointer (some x6))), _, wz, by go_simp, .inl rfl, ⟨fun h => (by cases h), fun _ => rfl, fun h => (by cases h)⟩, HI3.out.held, fun _ _ h => h⟩
    | 2, hi =>
      obtain rfl := Option.some.inj hi
      have hc3 := h13.cell
      have hf3 := h13.frozen
      refine ⟨by rfl, (fun c => by intro h; cases h), (fun c => by intro h; cases h), .skip, undef, wz.setCell ⟨w.heap.size, 0, none⟩ (.pointer none), by go_simp, .inr ⟨rfl, rfl⟩, ⟨fun h => (by cases h), fun h => (by cases h), fun h => (by cases h)⟩, ⟨fun k h1 h2 => (Below.heap_setCell wz ⟨w.heap.size, 0, none⟩ _ k (fun e => h1 e)).trans (hb3 k h1 h2), by simpa using hsz3, hos3, h13.set _, u3, h23.other (by omega) _⟩, fun j v h => ⟨h.1, h.2.1, fun hj => (h.2.2 hj).other (by omega) _⟩⟩
    | 3, hi =>
      obtain rfl := Option.some.inj hi
      have v1 : ac.tmps.getD 26 undef = (.iface t6 (.pointer (some x6))) := (HI3.out.at hall 1 26 rfl rfl (by rfl)).2.1 rfl
      have hc3 := h23.cell
      have hf3 := h23.frozen
      refine ⟨by rfl, (fun c => by intro h; cases h), (fun c => by intro h; cases h), .skip, undef, wz.setCell ⟨w.heap.size + 1, 0, none⟩ (.iface t6 (.pointer (some x6))), by go_simp, .inr ⟨rfl, rfl⟩, ⟨fun h => (by cases h), fun h => (by cases h), fun _ => h23.set _⟩, ⟨fun k h1 h2 => (Below.heap_setCell wz ⟨w.heap.size + 1, 0, none⟩ _ k (fun e => h2 e)).trans (hb3 k h1 h2), by simpa using hsz3, hos3, h13.other (by omega) _, _, h23.set _⟩, fun j v h => ⟨h.1, h.2.1, fun _ => h23.set _⟩⟩
    | k + 4, hi => exact absurd hi (by simp)
  case hfin3 =>
    intro listed ac wz hall hI3
    obtain ⟨hb3, hsz3, hos3, h13, u3, h23⟩ := hI3.held
    obtain ⟨v3, hv3⟩ := hI3.seen 3 _ rfl (hall 3 (by decide))
    have f2 := hI3.fix 2 (.pointer (some ⟨w.heap.size, 0, none⟩)) (by simp)
    have f3 := hI3.fix 3 (.pointer (some ⟨w.heap.size + 1, 0, none⟩)) (by simp)
    have hdf := hI3.df
    have hr2 := hv3.2.2 rfl
    have HZ := hide (And.intro hb3 (And.intro hsz3 (And.intro hos3 (And.intro h13 (And.intro hr2 (And.intro f2 f3))))))
    clear hI3 hall hb3 hsz3 hos3 h13 h23 hv3 hr2 f2 f3
    obtain ⟨tm, df⟩ := ac
    simp only at hdf
    subst hdf
    gi_wp2
    refine ⟨_, results_box2 rfl _ _ w.heap.size (w.heap.size + 1) (.pointer none) (.iface t6 (.pointer (some x6))) HZ.out.2.2.2.2.2.1 HZ.out.2.2.2.2.2.2 HZ.out.2.2.2.1 HZ.out.2.2.2.2.1, _, _, rfl, ⟨m1, ?_⟩, ?_⟩
    · exact Flt.mono (lo' := w.heap.size) (by omega) (HF.out.keep (fun k o v hk hc => (World.cell?_of_block (a := ⟨k, o, none⟩) (HZ.out.1 k (by omega) (by omega))).trans hc))
    · exact ⟨HZ.out.2.2.1.1.trans K1.out.2.os, HZ.out.2.2.1.2.1.trans K1.out.2.tape, HZ.out.2.2.1.2.2.trans K1.out.2.output, by rw [HZ.out.2.1]; exact K1.out.2.size, fun k hk => (HZ.out.1 k (by omega) (by omega)).trans (K1.out.2.block k hk)⟩

end Go.Proofs.YtplieplmhdfndaaGreatDoor

namespace Go.Proofs.YtplieplmhdfndaaGreatDoor
set_option linter.unusedVariables false
set_option linter.unusedSimpArgs false
open Go.RowKit

theorem right_notZero {ps : List Int} (h : sRight ps = true) : sZero ps = false := by
  cases hz : sZero ps with
  | false => rfl
  | true => rw [sZero_not_right (sZero_parts hz).1] at h; cases h
/-- Slot k has the name. -/
def atK (zs : List Int) (nm : ByteArray) (k : Nat) : Bool := sRight (slotK zs k) && ((sName (slotK zs k)).toList == nm.toList)
/-- The first slot that has it. -/
def firstK (zs : List Int) (nm : ByteArray) (n : Nat) : Option Nat := (List.range n).find? (atK zs nm)
theorem firstK_succ (zs : List Int) (nm : ByteArray) (n : Nat) : firstK zs nm (n + 1) = (firstK zs nm n).or (if atK zs nm n = true then some n else none) := by
  unfold firstK
  rw [List.range_succ, List.find?_append]
  congr 1
  by_cases h : atK zs nm n = true
  · simp [h]
  · simp [h]
theorem firstK_lt {zs : List Int} {nm : ByteArray} {n k : Nat} (h : firstK zs nm n = some k) : k < n ∧ atK zs nm k = true := by
  unfold firstK at h
  exact ⟨List.mem_range.1 (List.mem_of_find?_eq_some h), List.find?_some h⟩
/-- In a right directory the map holds just this slot. -/
theorem map_first (H : Type) {zs : List Int} (nm : ByteArray) : ∀ {n : Nat} {es : List (ByteArray × Nat × Nat)}, entT zs n = some es →
    Maps.has (mapR H zs (List.range n).reverse) (.string nm.data.toList) = (firstK zs nm n).isSome ∧ ∀ k, firstK zs nm n = some k → (mapR H zs (List.range n).reverse).atKey (.string nm.data.toList) (.lit (.int .i64 0)) = .lit (.int .i64 (k : Int))
  | 0, es, h => ⟨rfl, fun k hk => by cases hk⟩
  | n + 1, fs, h => by
    obtain ⟨es, h1, h2⟩ := entT_some h
    obtain ⟨ih1, ih2⟩ := map_first H nm h1
    have hr : (List.range (n + 1)).reverse = n :: (List.range n).reverse := by rw [List.range_succ, List.reverse_append]; rfl
    rw [hr, firstK_succ]
    rcases h2 with ⟨hz, rfl⟩ | ⟨hz, hr2, ha, rfl⟩
    · have hat : atK zs nm n = false := by
        unfold atK
        cases hq : sRight (slotK zs n) with
        | false => rfl
        | true => rw [right_notZero hq] at hz; cases hz
      rw [mapR, if_pos hz, if_neg (by rw [hat]; decide), Option.or_none]
      exact ⟨ih1, ih2⟩
    · rw [mapR, if_neg (by rw [hz]; simp), List.length_reverse, List.length_range]
      obtain ⟨ds, hd⟩ := mapR_map H zs (List.range n).reverse
      by_cases e : (sName (slotK zs n)).toList = nm.toList
      · have e2 : (sName (slotK zs n)).data.toList = nm.data.toList := by rw [← ByteArray.toList_eq, ← ByteArray.toList_eq]; exact e
        have hat : atK zs nm n = true := by unfold atK; rw [hr2, e]; simp
        have hno : firstK zs nm n = none := by
          have h3 := mapR_has H nm (show entR zs (List.range n).reverse = some es from by rw [entR_range]; exact h1)
          rw [ih1] at h3
          have h4 : (es.any fun e => e.1.toList == nm.toList) = false := by rw [← e]; exact ha
          rw [h4] at h3
          cases hf : firstK zs nm n with
          | none => rfl
          | some q => rw [hf] at h3; cases h3
        rw [hno, if_pos hat, ← e2]
        refine ⟨?_, fun k hk => ?_⟩
        · rw [Maps.has_put_same (by rw [hd]; exact ⟨_, rfl⟩) (by first | trivial | simp [WideAt.IsKeyLit] | exact ⟨_, rfl⟩)]
          rfl
        · rw [Maps.atKey_put_same (by rw [hd]; exact ⟨_, rfl⟩) (by first | trivial | simp [WideAt.IsKeyLit] | exact ⟨_, rfl⟩)]
          have : n = k := by simpa using hk
          rw [this]
      · have e2 : (Lit.string nm.data.toList) ≠ .string (sName (slotK zs n)).data.toList := by
          intro h
          injection h with h
          rw [← ByteArray.toList_eq, ← ByteArray.toList_eq] at h
          exact e h.symm
        have hat : atK zs nm n = false := by unfold atK; simp [e]
        rw [if_neg (by rw [hat]; decide), Option.or_none, Maps.has_put_other e2]
        refine ⟨ih1, fun k hk => ?_⟩
        rw [Maps.atKey_put_other e2]
        exact ih2 k hk
end Go.Proofs.YtplieplmhdfndaaGreatDoor

namespace Go.Proofs.YtplieplmhdfndaaGreatDoor
set_option linter.unusedVariables false
set_option linter.unusedSimpArgs false
open Go.RowKit

end Go.Proofs.YtplieplmhdfndaaGreatDoor

namespace Go.Proofs.YtplieplmhdfndaaGreatDoor
set_option linter.unusedVariables false
set_option linter.unusedSimpArgs false
open Go.RowKit

theorem dirOk_len {zs : List Int} (h : dirOk zs = true) : zs.length % 512 = 0 ∧ zs.length ≤ 262144 := by
  unfold dirOk at h
  simp only [Bool.and_eq_true, decide_eq_true_eq] at h
  exact ⟨h.1, h.2.1⟩
end Go.Proofs.YtplieplmhdfndaaGreatDoor

namespace Go.Proofs.YtplieplmhdfndaaGreatDoor
set_option linter.unusedVariables false
set_option linter.unusedSimpArgs false
open Go.RowKit

/-- openDirectory, whatever the length. -/
theorem openDir_all (H : Type) (cap : Nat) (a : Option Addr) (zs : List Int) (w : World) (h : Rd .u8 w (.slice a zs.length cap) zs) (hbd : ∀ z ∈ zs, 0 ≤ z ∧ z < 256) :
    Calls Tryz.prog 52 #[.slice a zs.length cap] w fun e w' => ∃ pa ev, e = .returned (.tuple #[.pointer pa, ev]) ∧ FaultIs w' w.heap.size (dirOk zs) ev 21 ∧ Below w.heap.size w w' ∧ (dirOk zs = true → ∃ d mb nn v', pa = some ⟨d, 0, none⟩ ∧ w.heap.size ≤ d ∧ w.heap.size ≤ mb ∧ nn ≤ zs.length / 32 ∧ Dr (H := H) w.heap.size w' d mb (zs.length / 32) nn v' (entsI (slotsL zs (zs.length / 32))) (mapR H zs (List.range (zs.length / 32)).reverse)) := by
  by_cases h512 : zs.length % 512 = 0
  · by_cases hl : zs.length ≤ 262144
    · exact openDir_ok (H := H) 0 0 cap a zs w h hbd hl h512
    · refine (openDir_long cap a zs w h h512 (by omega)).mono ?_
      rintro e w' ⟨v, ev, rfl, h1, h2⟩
      have hf : dirOk zs = false := by simp [dirOk, hl]
      exact ⟨v, ev, rfl, .inr ⟨hf, h1⟩, h2, fun h => by rw [hf] at h; cases h⟩
  · refine (openDir_odd cap a zs w h h512).mono ?_
    rintro e w' ⟨v, ev, rfl, h1, h2⟩
    have hf : dirOk zs = false := by simp [dirOk, h512]
    exact ⟨v, ev, rfl, .inr ⟨hf, h1⟩, h2, fun h => by rw [hf] at h; cases h⟩
theorem lookK {H : Type} {w : World} {mb nn : Nat} {D : DataW H} (h : w.ownsMap Tryz.prog 9 (plainElem (H := H) Tryz.prog 3) mb nn D) (nm : ByteArray) (hnm : nm.size ≤ maxLen) :
    ∃ c : Int, (Instr.lookup 114 (.map (some mb)) (.string nm) true).run Tryz.prog w = .ok (.tuple #[.int .i64 c, .bool (Maps.has D (.string nm.data.toList))]) w ∧ D.atKey (.string nm.data.toList) (.lit (.int .i64 0)) = .lit (.int .i64 c) := by
  obtain ⟨v, ps, hrun, hv⟩ := h.look_ok (Maps.string_keyed Tryz.underlying9) Tryz.underlying114 (z := .int .i64 0) (Tryz.zeroValue3 _) (plainElem_int Tryz.underlying3 (by decide)) (WideMaps.keyOf_string_mk Tryz.underlying9 hnm)
  obtain ⟨c, rfl, hc, _⟩ := plainElem_int_inv Tryz.underlying3 hv
  exact ⟨c, hrun, congrArg Prod.fst hc⟩
theorem entsI_at {L : List (ByteArray × Int × Int)} {k : Nat} {e : ByteArray × Int × Int} (h : L[k]? = some e) : ∀ j u, (entC e.1 e.2.1 e.2.2).toList[j]? = some u → (entsI L)[k * 3 + j]? = some u := by
  intro j u hu
  have hx := ext_ent L k e h
  have h2 : ((entsI L).toArray.extract (k * 3) (k * 3 + 3)).toList[j]? = some u := by rw [hx]; exact hu
  have hj : j < 3 := by
    rcases Nat.lt_or_ge j 3 with h1 | h1
    · exact h1
    · rw [List.getElem?_eq_none (by simp [entC]; omega)] at hu; cases hu
  simp [hj] at h2
  exact h2

end Go.Proofs.YtplieplmhdfndaaGreatDoor
