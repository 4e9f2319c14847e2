/- openDirectory of a length that is wrong; the program's DirCheck; the law. A name's slot (mathematics): what the model's search finds is what the program's map holds. The model's l06At and DirFind. DirFind of the model. -/
import Derived.Test.YtplieplmhdfndaaGreatDoorZa30
import Derived.Test.YtplieplmhdfndaaGreatDoorZa16
import Derived.Test.YtplieplmhdfndaaGreatDoorZa28
namespace Go.Proofs.YtplieplmhdfndaaGreatDoor
set_option linter.unusedVariables false
set_option linter.unusedSimpArgs false
open Go.RowKit Go.Shelf
attribute [local go_sem] Oper.semAt_some

set_option maxRecDepth 100000 in
set_option maxHeartbeats 4000000 in
theorem openDir_odd (cap : Nat) (a : Option Addr) (zs : List Int) (w : World) (h : Rd .u8 w (.slice a zs.length cap) zs) (h512 : zs.length % 512 ≠ 0) :
    Calls Tryz.prog 52 #[.slice a zs.length cap] w fun e w' => ∃ pa ev, e = .returned (.tuple #[.pointer pa, ev]) ∧ (∃ m, Flt w' w.heap.size m ev 21) ∧ Below w.heap.size w w' := by
  have hm := h.len
  unfold maxLen at hm
  have h512i : ((((zs.length : Int) % 512)) == 0) = false := by simp; omega
  obtain ⟨wR, hwR⟩ : ∃ wR, wR = (w.alloc (.cells #[.pointer none] 79)).alloc (.cells #[.nilIface] 72) := ⟨_, rfl⟩
  have hsR : wR.heap.size = w.heap.size + 1 + 1 := by rw [hwR]; simp
  have hbR : Below w.heap.size w wR := by rw [hwR]; exact ((Below.refl _ _).alloc (Nat.le_refl _) _).alloc (by simp) _
  have hx1 : Boxed wR w.heap.size 79 (.pointer none) := by rw [hwR]; exact (Boxed.new w _ _).alloc _
  have hx2 : Boxed wR (w.heap.size + 1) 72 .nilIface := by
    have h := Boxed.new (w.alloc (.cells #[.pointer none] 79)) 72 .nilIface
    rw [World.size_alloc] at h
    rw [hwR]; exact h
  have K0 := hide (And.intro (Ck.fresh wR 21 127) (hbR.alloc hbR.size (.cells #[.int .i64 21, .nilIface] 127)))
  have HWR := hide hwR
  have HXB := hide (And.intro hx1 hx2)
  clear hwR hbR hx1 hx2
  refine (callsIn_wide (n := 6)).1 ?_
  refine callsIn_of_wp_marks Tryz.func52 rfl trivial ?_ rfl
  simp only [Tryz.ntmps52, List.size_toArray, List.length_cons, List.length_nil, Nat.reduceAdd, Nat.reduceSub, Array.replicate_succ, Array.replicate_zero, List.push_toArray, List.append_toArray, List.nil_append, List.cons_append]
  gi_wp2_with (refine ⟨trivial, ?_⟩; gi_at_call 86; fail)
  refine ⟨trivial, ?_⟩
  rw [← HWR.out, ← hsR]
  refine (callsIn_wide.2 (need_any wR.heap.size (wR.heap.size + 1) _ 21 true false _ K0.out.1 (by omega) (by simp))).mono ?_
  rintro e w1 ⟨rfl, hc1, ht1⟩
  have K1 := hide (And.intro hc1 (show Below w.heap.size w w1 from K0.out.2.grown ht1.1 (by simp; omega) (fun k e => by cases e; omega)))
  have hs1 : wR.heap.size + 1 ≤ w1.heap.size := by have := ht1.1.size; simp at this; omega
  have KX := hide (And.intro (Boxed.kept (HXB.out.1.alloc (.cells #[.int .i64 21, .nilIface] 127)) ht1.1 (by simp; omega)) (Boxed.kept (HXB.out.2.alloc (.cells #[.int .i64 21, .nilIface] 127)) ht1.1 (by simp; omega)))
  clear hc1 ht1 K0
  rw [Bool.true_and] at K1
  obtain ⟨e1, c1, hf1⟩ := K1.out.1.fault
  rw [hsR] at c1
  rcases hf1 with ⟨hf1, _⟩ | ⟨_, m1, hf1⟩
  · cases hf1
  obtain ⟨t6, x6, rfl⟩ := hf1.iface
  have HF := hide hf1
  clear hf1
  gi_wp2
  refine wpIn_region_any (by kernel_rfl) ?_
  change wpAnyIn _ _ _ _ _ _ _ _ _ (World.drew w1)
  refine wpAnyIn_invB [(2, .pointer (some ⟨w.heap.size, 0, none⟩)), (3, .pointer (some ⟨w.heap.size + 1, 0, none⟩)), (4, .pointer (some ⟨w.heap.size + 1 + 1, 0, none⟩))] (fun w' => (∀ k, k ≠ w.heap.size → k ≠ w.heap.size + 1 → w'.heap[k]? = w1.heap[k]?) ∧ w'.heap.size = w1.heap.size ∧ (w'.os = w1.os ∧ w'.tape = w1.tape ∧ w'.output = w1.output) ∧ Boxed w' w.heap.size 79 (.pointer none) ∧ ∃ u, Boxed w' (w.heap.size + 1) 72 u)
    (fun i v w' => (i = 0 → v = .pointer (some ⟨w.heap.size + 1 + 1, 1, none⟩)) ∧ (i = 1 → v = (.iface t6 (.pointer (some x6)))) ∧ (i = 3 → Boxed w' (w.heap.size + 1) 72 (.iface t6 (.pointer (some x6))))) 71 [] (by kernel_rfl) ?hstep3 ?hfin3 _ _ rfl rfl ⟨fun _ _ _ => rfl, rfl, ⟨rfl, rfl, rfl⟩, KX.out.1, _, KX.out.2⟩ (by
    intro t v h
    simp only [List.mem_cons, List.not_mem_nil, or_false, Prod.mk.injEq] at h
    rcases h with ⟨rfl, rfl⟩ | ⟨rfl, rfl⟩ | ⟨rfl, rfl⟩ <;> rfl)
  case hstep3 =>
    intro i o listed ac wz hi hall hI3
    obtain ⟨hb3, hsz3, hos3, h13, u3, h23⟩ := hI3.held
    have f2 : ac.tmps.getD 2 undef = .pointer (some ⟨w.heap.size, 0, none⟩) := hI3.fix 2 _ (by simp)
    have f3 : ac.tmps.getD 3 undef = .pointer (some ⟨w.heap.size + 1, 0, none⟩) := hI3.fix 3 _ (by simp)
    have f4 : ac.tmps.getD 4 undef = .pointer (some ⟨w.heap.size + 1 + 1, 0, none⟩) := hI3.fix 4 _ (by simp)
    have HI3 := hide hI3
    match i, hi with
    | 0, hi =>
      obtain rfl := Option.some.inj hi
      exact ⟨by rfl, (fun c => by intro h; cases h), (fun c => by intro h; cases h), .value (.pointer (some ⟨w.heap.size + 1 + 1, 1, none⟩)), _, wz, by go_simp, .inl rfl, ⟨fun _ => rfl, fun h => (by cases h), fun h => (by cases h)⟩, HI3.out.held, fun _ _ h => h⟩
    | 1, hi =>
      obtain rfl := Option.some.inj hi
      have v0 : ac.tmps.getD 25 undef = .pointer (some ⟨w.heap.size + 1 + 1, 1, none⟩) := (HI3.out.at hall 0 25 rfl rfl (by rfl)).1 rfl
      have hc3 : wz.cell? ⟨w.heap.size + 1 + 1, 1, none⟩ = some (.iface t6 (.pointer (some x6))) := (World.cell?_of_block (a := ⟨w.heap.size + 1 + 1, 1, none⟩) (hb3 _ (by simp; omega) (by simp))).trans c1
      exact ⟨by rfl, (fun c => by intro h; cases h), (fun c => by intro h; cases h), .value (.iface t6 (.pointer (some x6))), _, wz, by go_simp, .inl rfl, ⟨fun h => (by cases h), fun _ => rfl, fun h => (by cases h)⟩, HI3.out.held, fun _ _ h => h⟩
    | 2, hi =>
      obtain rfl := Option.some.inj hi
      have hc3 := h13.cell
      have hf3 := h13.frozen
      refine ⟨by rfl, (fun c => by intro h; cases h), (fun c => by intro h; cases h), .skip, undef, wz.setCell ⟨w.heap.size, 0, none⟩ (.pointer none), by go_simp, .inr ⟨rfl, rfl⟩, ⟨fun h => (by cases h), fun h => (by cases h), fun h => (by cases h)⟩, ⟨fun k h1 h2 => (Below.heap_setCell wz ⟨w.heap.size, 0, none⟩ _ k (fun e => h1 e)).trans (hb3 k h1 h2), by simpa using hsz3, hos3, h13.set _, u3, h23.other (by omega) _⟩, fun j v h => ⟨h.1, h.2.1, fun hj => (h.2.2 hj).other (by omega) _⟩⟩
    | 3, hi =>
      obtain rfl := Option.some.inj hi
      have v1 : ac.tmps.getD 26 undef = (.iface t6 (.pointer (some x6))) := (HI3.out.at hall 1 26 rfl rfl (by rfl)).2.1 rfl
      have hc3 := h23.cell
      have hf3 := h23.frozen
      refine ⟨by rfl, (fun c => by intro h; cases h), (fun c => by intro h; cases h), .skip, undef, wz.setCell ⟨w.heap.size + 1, 0, none⟩ (.iface t6 (.pointer (some x6))), by go_simp, .inr ⟨rfl, rfl⟩, ⟨fun h => (by cases h), fun h => (by cases h), fun _ => h23.set _⟩, ⟨fun k h1 h2 => (Below.heap_setCell wz ⟨w.heap.size + 1, 0, none⟩ _ k (fun e => h2 e)).trans (hb3 k h1 h2), by simpa using hsz3, hos3, h13.other (by omega) _, _, h23.set _⟩, fun j v h => ⟨h.1, h.2.1, fun _ => h23.set _⟩⟩
    | k + 4, hi => exact absurd hi (by simp)
  case hfin3 =>
    intro listed ac wz hall hI3
    obtain ⟨hb3, hsz3, hos3, h13, u3, h23⟩ := hI3.held
    obtain ⟨v3, hv3⟩ := hI3.seen 3 _ rfl (hall 3 (by decide))
    have f2 := hI3.fix 2 (.pointer (some ⟨w.heap.size, 0, none⟩)) (by simp)
    have f3 := hI3.fix 3 (.pointer (some ⟨w.heap.size + 1, 0, none⟩)) (by simp)
    have hdf := hI3.df
    have hr2 := hv3.2.2 rfl
    have HZ := hide (And.intro hb3 (And.intro hsz3 (And.intro hos3 (And.intro h13 (And.intro hr2 (And.intro f2 f3))))))
    clear hI3 hall hb3 hsz3 hos3 h13 h23 hv3 hr2 f2 f3
    obtain ⟨tm, df⟩ := ac
    simp only at hdf
    subst hdf
    gi_wp2
    refine ⟨_, results_box2 rfl _ _ w.heap.size (w.heap.size + 1) (.pointer none) (.iface t6 (.pointer (some x6))) HZ.out.2.2.2.2.2.1 HZ.out.2.2.2.2.2.2 HZ.out.2.2.2.1 HZ.out.2.2.2.2.1, _, _, rfl, ⟨m1, ?_⟩, ?_⟩
    · exact Flt.mono (lo' := w.heap.size) (by omega) (HF.out.keep (fun k o v hk hc => (World.cell?_of_block (a := ⟨k, o, none⟩) (HZ.out.1 k (by omega) (by omega))).trans hc))
    · exact ⟨HZ.out.2.2.1.1.trans K1.out.2.os, HZ.out.2.2.1.2.1.trans K1.out.2.tape, HZ.out.2.2.1.2.2.trans K1.out.2.output, by rw [HZ.out.2.1]; exact K1.out.2.size, fun k hk => (HZ.out.1 k (by omega) (by omega)).trans (K1.out.2.block k hk)⟩
set_option maxRecDepth 100000 in
set_option maxHeartbeats 4000000 in
theorem openDir_long (cap : Nat) (a : Option Addr) (zs : List Int) (w : World) (h : Rd .u8 w (.slice a zs.length cap) zs) (h512 : zs.length % 512 = 0) (hl : 262144 < zs.length) :
    Calls Tryz.prog 52 #[.slice a zs.length cap] w fun e w' => ∃ pa ev, e = .returned (.tuple #[.pointer pa, ev]) ∧ (∃ m, Flt w' w.heap.size m ev 21) ∧ Below w.heap.size w w' := by
  have hm := h.len
  unfold maxLen at hm
  have h512i : ((zs.length : Int) % 512) = 0 := by omega
  have hli : ¬ (zs.length : Int) ≤ 262144 := by omega
  obtain ⟨wR, hwR⟩ : ∃ wR, wR = (w.alloc (.cells #[.pointer none] 79)).alloc (.cells #[.nilIface] 72) := ⟨_, rfl⟩
  have hsR : wR.heap.size = w.heap.size + 1 + 1 := by rw [hwR]; simp
  have hbR : Below w.heap.size w wR := by rw [hwR]; exact ((Below.refl _ _).alloc (Nat.le_refl _) _).alloc (by simp) _
  have hx1 : Boxed wR w.heap.size 79 (.pointer none) := by rw [hwR]; exact (Boxed.new w _ _).alloc _
  have hx2 : Boxed wR (w.heap.size + 1) 72 .nilIface := by
    have h := Boxed.new (w.alloc (.cells #[.pointer none] 79)) 72 .nilIface
    rw [World.size_alloc] at h
    rw [hwR]; exact h
  have K0 := hide (And.intro (Ck.fresh wR 21 127) (hbR.alloc hbR.size (.cells #[.int .i64 21, .nilIface] 127)))
  have HWR := hide hwR
  have HXB := hide (And.intro hx1 hx2)
  clear hwR hbR hx1 hx2
  refine (callsIn_wide (n := 6)).1 ?_
  refine callsIn_of_wp_marks Tryz.func52 rfl trivial ?_ rfl
  simp only [Tryz.ntmps52, List.size_toArray, List.length_cons, List.length_nil, Nat.reduceAdd, Nat.reduceSub, Array.replicate_succ, Array.replicate_zero, List.push_toArray, List.append_toArray, List.nil_append, List.cons_append]
  gi_wp2_with (refine ⟨trivial, ?_⟩; gi_at_call 86; fail)
  refine ⟨trivial, ?_⟩
  rw [← HWR.out, ← hsR]
  refine (callsIn_wide.2 (need_any wR.heap.size (wR.heap.size + 1) _ 21 true false _ K0.out.1 (by omega) (by simp))).mono ?_
  rintro e w1 ⟨rfl, hc1, ht1⟩
  have K1 := hide (And.intro hc1 (show Below w.heap.size w w1 from K0.out.2.grown ht1.1 (by simp; omega) (fun k e => by cases e; omega)))
  have hs1 : wR.heap.size + 1 ≤ w1.heap.size := by have := ht1.1.size; simp at this; omega
  have KX := hide (And.intro (Boxed.kept (HXB.out.1.alloc (.cells #[.int .i64 21, .nilIface] 127)) ht1.1 (by simp; omega)) (Boxed.kept (HXB.out.2.alloc (.cells #[.int .i64 21, .nilIface] 127)) ht1.1 (by simp; omega)))
  clear hc1 ht1 K0
  rw [Bool.true_and] at K1
  obtain ⟨e1, c1, hf1⟩ := K1.out.1.fault
  rw [hsR] at c1
  rcases hf1 with ⟨hf1, _⟩ | ⟨_, m1, hf1⟩
  · cases hf1
  obtain ⟨t6, x6, rfl⟩ := hf1.iface
  have HF := hide hf1
  clear hf1
  gi_wp2
  refine wpIn_region_any (by kernel_rfl) ?_
  change wpAnyIn _ _ _ _ _ _ _ _ _ (World.drew w1)
  refine wpAnyIn_invB [(2, .pointer (some ⟨w.heap.size, 0, none⟩)), (3, .pointer (some ⟨w.heap.size + 1, 0, none⟩)), (4, .pointer (some ⟨w.heap.size + 1 + 1, 0, none⟩))] (fun w' => (∀ k, k ≠ w.heap.size → k ≠ w.heap.size + 1 → w'.heap[k]? = w1.heap[k]?) ∧ w'.heap.size = w1.heap.size ∧ (w'.os = w1.os ∧ w'.tape = w1.tape ∧ w'.output = w1.output) ∧ Boxed w' w.heap.size 79 (.pointer none) ∧ ∃ u, Boxed w' (w.heap.size + 1) 72 u)
    (fun i v w' => (i = 0 → v = .pointer (some ⟨w.heap.size + 1 + 1, 1, none⟩)) ∧ (i = 1 → v = (.iface t6 (.pointer (some x6)))) ∧ (i = 3 → Boxed w' (w.heap.size + 1) 72 (.iface t6 (.pointer (some x6))))) 71 [] (by kernel_rfl) ?hstep3 ?hfin3 _ _ rfl rfl ⟨fun _ _ _ => rfl, rfl, ⟨rfl, rfl, rfl⟩, KX.out.1, _, KX.out.2⟩ (by
    intro t v h
    simp only [List.mem_cons, List.not_mem_nil, or_false, Prod.mk.injEq] at h
    rcases h with ⟨rfl, rfl⟩ | ⟨rfl, rfl⟩ | ⟨rfl, rfl⟩ <;> rfl)
  case hstep3 =>
    intro i o listed ac wz hi hall hI3
    obtain ⟨hb3, hsz3, hos3, h13, u3, h23⟩ := hI3.held
    have f2 : ac.tmps.getD 2 undef = .pointer (some ⟨w.heap.size, 0, none⟩) := hI3.fix 2 _ (by simp)
    have f3 : ac.tmps.getD 3 undef = .pointer (some ⟨w.heap.size + 1, 0, none⟩) := hI3.fix 3 _ (by simp)
    have f4 : ac.tmps.getD 4 undef = .pointer (some ⟨w.heap.size + 1 + 1, 0, none⟩) := hI3.fix 4 _ (by simp)
    have HI3 := hide hI3
    match i, hi with
    | 0, hi =>
      obtain rfl := Option.some.inj hi
      exact ⟨by rfl, (fun c => by intro h; cases h), (fun c => by intro h; cases h), .value (.pointer (some ⟨w.heap.size + 1 + 1, 1, none⟩)), _, wz, by go_simp, .inl rfl, ⟨fun _ => rfl, fun h => (by cases h), fun h => (by cases h)⟩, HI3.out.held, fun _ _ h => h⟩
    | 1, hi =>
      obtain rfl := Option.some.inj hi
      have v0 : ac.tmps.getD 25 undef = .pointer (some ⟨w.heap.size + 1 + 1, 1, none⟩) := (HI3.out.at hall 0 25 rfl rfl (by rfl)).1 rfl
      have hc3 : wz.cell? ⟨w.heap.size + 1 + 1, 1, none⟩ = some (.iface t6 (.pointer (some x6))) := (World.cell?_of_block (a := ⟨w.heap.size + 1 + 1, 1, none⟩) (hb3 _ (by simp; omega) (by simp))).trans c1
      exact ⟨by rfl, (fun c => by intro h; cases h), (fun c => by intro h; cases h), .value (.iface t6 (.pointer (some x6))), _, wz, by go_simp, .inl rfl, ⟨fun h => (by cases h), fun _ => rfl, fun h => (by cases h)⟩, HI3.out.held, fun _ _ h => h⟩
    | 2, hi =>
      obtain rfl := Option.some.inj hi
      have hc3 := h13.cell
      have hf3 := h13.frozen
      refine ⟨by rfl, (fun c => by intro h; cases h), (fun c => by intro h; cases h), .skip, undef, wz.setCell ⟨w.heap.size, 0, none⟩ (.pointer none), by go_simp, .inr ⟨rfl, rfl⟩, ⟨fun h => (by cases h), fun h => (by cases h), fun h => (by cases h)⟩, ⟨fun k h1 h2 => (Below.heap_setCell wz ⟨w.heap.size, 0, none⟩ _ k (fun e => h1 e)).trans (hb3 k h1 h2), by simpa using hsz3, hos3, h13.set _, u3, h23.other (by omega) _⟩, fun j v h => ⟨h.1, h.2.1, fun hj => (h.2.2 hj).other (by omega) _⟩⟩
    | 3, hi =>
      obtain rfl := Option.some.inj hi
      have v1 : ac.tmps.getD 26 undef = (.iface t6 (.pointer (some x6))) := (HI3.out.at hall 1 26 rfl rfl (by rfl)).2.1 rfl
      have hc3 := h23.cell
      have hf3 := h23.frozen
      refine ⟨by rfl, (fun c => by intro h; cases h), (fun c => by intro h; cases h), .skip, undef, wz.setCell ⟨w.heap.size + 1, 0, none⟩ (.iface t6 (.pointer (some x6))), by go_simp, .inr ⟨rfl, rfl⟩, ⟨fun h => (by cases h), fun h => (by cases h), fun _ => h23.set _⟩, ⟨fun k h1 h2 => (Below.heap_setCell wz ⟨w.heap.size + 1, 0, none⟩ _ k (fun e => h2 e)).trans (hb3 k h1 h2), by simpa using hsz3, hos3, h13.other (by omega) _, _, h23.set _⟩, fun j v h => ⟨h.1, h.2.1, fun _ => h23.set _⟩⟩
    | k + 4, hi => exact absurd hi (by simp)
  case hfin3 =>
    intro listed ac wz hall hI3
    obtain ⟨hb3, hsz3, hos3, h13, u3, h23⟩ := hI3.held
    obtain ⟨v3, hv3⟩ := hI3.seen 3 _ rfl (hall 3 (by decide))
    have f2 := hI3.fix 2 (.pointer (some ⟨w.heap.size, 0, none⟩)) (by simp)
    have f3 := hI3.fix 3 (.pointer (some ⟨w.heap.size + 1, 0, none⟩)) (by simp)
    have hdf := hI3.df
    have hr2 := hv3.2.2 rfl
    have HZ := hide (And.intro hb3 (And.intro hsz3 (And.intro hos3 (And.intro h13 (And.intro hr2 (And.intro f2 f3))))))
    clear hI3 hall hb3 hsz3 hos3 h13 h23 hv3 hr2 f2 f3
    obtain ⟨tm, df⟩ := ac
    simp only at hdf
    subst hdf
    gi_wp2
    refine ⟨_, results_box2 rfl _ _ w.heap.size (w.heap.size + 1) (.pointer none) (.iface t6 (.pointer (some x6))) HZ.out.2.2.2.2.2.1 HZ.out.2.2.2.2.2.2 HZ.out.2.2.2.1 HZ.out.2.2.2.2.1, _, _, rfl, ⟨m1, ?_⟩, ?_⟩
    · exact Flt.mono (lo' := w.heap.size) (by omega) (HF.out.keep (fun k o v hk hc => (World.cell?_of_block (a := ⟨k, o, none⟩) (HZ.out.1 k (by omega) (by omega))).trans hc))
    · exact ⟨HZ.out.2.2.1.1.trans K1.out.2.os, HZ.out.2.2.1.2.1.trans K1.out.2.tape, HZ.out.2.2.1.2.2.trans K1.out.2.output, by rw [HZ.out.2.1]; exact K1.out.2.size, fun k hk => (HZ.out.1 k (by omega) (by omega)).trans (K1.out.2.block k hk)⟩

end Go.Proofs.YtplieplmhdfndaaGreatDoor

namespace Go.Proofs.YtplieplmhdfndaaGreatDoor
set_option linter.unusedVariables false
set_option linter.unusedSimpArgs false
open Go.RowKit

theorem right_notZero {ps : List Int} (h : sRight ps = true) : sZero ps = false := by
  cases hz : sZero ps with
  | false => rfl
  | true => rw [sZero_not_right (sZero_parts hz).1] at h; cases h
/-- Slot k has the name. -/
def atK (zs : List Int) (nm : ByteArray) (k : Nat) : Bool := sRight (slotK zs k) && ((sName (slotK zs k)).toList == nm.toList)
/-- The first slot that has it. -/
def firstK (zs : List Int) (nm : ByteArray) (n : Nat) : Option Nat := (List.range n).find? (atK zs nm)
theorem firstK_succ (zs : List Int) (nm : ByteArray) (n : Nat) : firstK zs nm (n + 1) = (firstK zs nm n).or (if atK zs nm n = true then some n else none) := by
  unfold firstK
  rw [List.range_succ, List.find?_append]
  congr 1
  by_cases h : atK zs nm n = true
  · simp [h]
  · simp [h]
theorem firstK_none {zs : List Int} {nm : ByteArray} {n : Nat} (h : ∀ j, j < n → atK zs nm j = false) : firstK zs nm n = none := by
  unfold firstK
  rw [List.find?_eq_none]
  intro j hj
  rw [h j (List.mem_range.1 hj)]
  decide
theorem firstK_some {zs : List Int} {nm : ByteArray} {n k : Nat} (hk : k < n) (h : ∀ j, j < k → atK zs nm j = false) (hat : atK zs nm k = true) : firstK zs nm n = some k := by
  obtain ⟨d, rfl⟩ : ∃ d, n = k + 1 + d := ⟨n - (k + 1), by omega⟩
  induction d with
  | zero => rw [Nat.add_zero, firstK_succ, firstK_none h, if_pos hat]; rfl
  | succ d ih => rw [← Nat.add_assoc, firstK_succ, ih (by omega)]; rfl
theorem firstK_lt {zs : List Int} {nm : ByteArray} {n k : Nat} (h : firstK zs nm n = some k) : k < n ∧ atK zs nm k = true := by
  unfold firstK at h
  exact ⟨List.mem_range.1 (List.mem_of_find?_eq_some h), List.find?_some h⟩
/-- In a right directory the map holds just this slot. -/
theorem map_first (H : Type) {zs : List Int} (nm : ByteArray) : ∀ {n : Nat} {es : List (ByteArray × Nat × Nat)}, entT zs n = some es →
    Maps.has (mapR H zs (List.range n).reverse) (.string nm.data.toList) = (firstK zs nm n).isSome ∧ ∀ k, firstK zs nm n = some k → (mapR H zs (List.range n).reverse).atKey (.string nm.data.toList) (.lit (.int .i64 0)) = .lit (.int .i64 (k : Int))
  | 0, es, h => ⟨rfl, fun k hk => by cases hk⟩
  | n + 1, fs, h => by
    obtain ⟨es, h1, h2⟩ := entT_some h
    obtain ⟨ih1, ih2⟩ := map_first H nm h1
    have hr : (List.range (n + 1)).reverse = n :: (List.range n).reverse := by rw [List.range_succ, List.reverse_append]; rfl
    rw [hr, firstK_succ]
    rcases h2 with ⟨hz, rfl⟩ | ⟨hz, hr2, ha, rfl⟩
    · have hat : atK zs nm n = false := by
        unfold atK
        cases hq : sRight (slotK zs n) with
        | false => rfl
        | true => rw [right_notZero hq] at hz; cases hz
      rw [mapR, if_pos hz, if_neg (by rw [hat]; decide), Option.or_none]
      exact ⟨ih1, ih2⟩
    · rw [mapR, if_neg (by rw [hz]; simp), List.length_reverse, List.length_range]
      obtain ⟨ds, hd⟩ := mapR_map H zs (List.range n).reverse
      by_cases e : (sName (slotK zs n)).toList = nm.toList
      · have e2 : (sName (slotK zs n)).data.toList = nm.data.toList := by rw [← ByteArray.toList_eq, ← ByteArray.toList_eq]; exact e
        have hat : atK zs nm n = true := by unfold atK; rw [hr2, e]; simp
        have hno : firstK zs nm n = none := by
          have h3 := mapR_has H nm (show entR zs (List.range n).reverse = some es from by rw [entR_range]; exact h1)
          rw [ih1] at h3
          have h4 : (es.any fun e => e.1.toList == nm.toList) = false := by rw [← e]; exact ha
          rw [h4] at h3
          cases hf : firstK zs nm n with
          | none => rfl
          | some q => rw [hf] at h3; cases h3
        rw [hno, if_pos hat, ← e2]
        refine ⟨?_, fun k hk => ?_⟩
        · rw [Maps.has_put_same (by rw [hd]; exact ⟨_, rfl⟩) (by first | trivial | simp [WideAt.IsKeyLit] | exact ⟨_, rfl⟩)]
          rfl
        · rw [Maps.atKey_put_same (by rw [hd]; exact ⟨_, rfl⟩) (by first | trivial | simp [WideAt.IsKeyLit] | exact ⟨_, rfl⟩)]
          have : n = k := by simpa using hk
          rw [this]
      · have e2 : (Lit.string nm.data.toList) ≠ .string (sName (slotK zs n)).data.toList := by
          intro h
          injection h with h
          rw [← ByteArray.toList_eq, ← ByteArray.toList_eq] at h
          exact e h.symm
        have hat : atK zs nm n = false := by unfold atK; simp [e]
        rw [if_neg (by rw [hat]; decide), Option.or_none, Maps.has_put_other e2]
        refine ⟨ih1, fun k hk => ?_⟩
        rw [Maps.atKey_put_other e2]
        exact ih2 k hk
end Go.Proofs.YtplieplmhdfndaaGreatDoor

namespace Go.Proofs.YtplieplmhdfndaaGreatDoor
set_option linter.unusedVariables false
set_option linter.unusedSimpArgs false
open Go.RowKit

def atI (zs : List Int) (nm : ByteArray) : Int := match firstK zs nm (zs.length / 32) with | some k => (k : Int) | none => -1
theorem rd_cells {w : World} {v : Value} {zs : List Int} (h : Rd .u8 w v zs) : ∃ b off a cap, v = .slice a zs.length cap ∧ zs.length ≤ cap ∧ cap ≤ maxLen ∧ (0 < zs.length → a = some ⟨b, off, none⟩ ∧ b < w.heap.size ∧ ∀ i, i < zs.length → w.cell? ⟨b, off + i, none⟩ = some (.int .u8 (zs.getD i 0))) := by
  obtain ⟨a, cap, rfl, hm, hc, h1, h2⟩ := h
  rcases Nat.eq_zero_or_pos zs.length with h | h
  · exact ⟨0, 0, a, cap, rfl, h1, h2, fun h3 => by omega⟩
  · obtain ⟨b, off, ea, hlt, hcell⟩ := hc (fun e => by rw [e] at h; simp at h)
    exact ⟨b, off, a, cap, rfl, h1, h2, fun _ => ⟨ea, hlt, hcell⟩⟩
set_option maxRecDepth 100000 in
set_option maxHeartbeats 1000000 in
theorem specAt_any (v : Value) (zs : List Int) (nm : ByteArray) (w : World) (h : Rd .u8 w v zs) (hbd : ∀ z ∈ zs, 0 ≤ z ∧ z < 256) (hl : zs.length ≤ 262144) (h32 : zs.length % 32 = 0) :
    Calls Tryz.prog 111 #[v, .string nm] w fun e w' => e = .returned (.int .i64 (atI zs nm)) ∧ Below w.heap.size w w' := by
  obtain ⟨b, off, a, cap, rfl, hcap, hcapm, hab⟩ := rd_cells h
  have HSl := hide (slots_any b off cap zs w hcap hcapm hl h32 a (fun h => (hab h).1))
  have HX := hide hbd
  have HA := hide hab
  obtain ⟨N, hN⟩ : ∃ N, N = zs.length / 32 := ⟨_, rfl⟩
  have hNL1 : zs.length ≤ N * 32 := by omega
  have hNL2 : N * 32 ≤ zs.length := by omega
  rw [← hN] at HSl
  have HAt := hide (show atI zs nm = match firstK zs nm N with | some k => (k : Int) | none => -1 from by rw [hN]; rfl)
  clear h hbd hab hN
  unfold maxLen at hcapm
  go_enter Tryz.func111, Tryz.ntmps111
  go_wp2_with (go_at_call 141; fail)
  refine HSl.out.mono ?_
  clear HSl
  rintro e wS ⟨vS, rfl, oS, bS⟩
  obtain ⟨aS, cS, rfl⟩ := ownD_shape oS
  have HS := hide (show 0 < N → ∃ gS, aS = some ⟨gS, 0, none⟩ ∧ gS < wS.heap.size ∧ N ≤ cS ∧ cS ≤ 9223372036854775807 ∧ ∀ j, j < N → wS.cell? ⟨gS, j, none⟩ = some (slotV b off cap j) from by
    intro h0
    obtain ⟨gS, cS', e, hg1, hg2, hc⟩ := own_sliceD oS h0
    injection e with e1 e2 e3
    subst e1
    rcases oS.2 with ⟨e4, _⟩ | ⟨g, cp, cur, e4, _, _, hn1, hn2, _⟩
    · cases e4
    · injection e4 with e5 e6 e7
      subst e7
      refine ⟨gS, rfl, hg2, hn1, hn2, fun j hj => ?_⟩
      have := hc j (slotV b off cap j) (by simp [hj])
      rwa [Addr.add_mid, Nat.zero_add] at this)
  have hBS := hide bS
  clear oS bS
  go_wp2
  go_loopw [12] (fun i wr => ∃ k : Nat, k ≤ N ∧ i = .int .i64 (k : Int) ∧ (∀ j, j < k → atK zs nm j = false) ∧ Below wS.heap.size wS wr) (fun i _ => N - (intOf i).toNat)
  case atStart => exact ⟨0, by omega, rfl, fun j hj => by omega, Below.refl _ _⟩
  case round =>
    obtain ⟨k, hk, rfl, hall, hB⟩ := hrel
    have HAll := hide hall
    have HB := hide hB
    have HW := hide (hBS.out.trans (hB.mono hBS.out.size))
    clear hall hB
    by_cases hlt : k < N
    · obtain ⟨gS, rfl, hgw, hNc, hcc, hcS⟩ := HS.out (by omega)
      have hl1 : k * 32 + 32 ≤ zs.length := by omega
      have hbw := (HA.out (by omega)).2.1
      have hcell := (HA.out (by omega)).2.2
      have c1 : wr.cell? ⟨gS, k, none⟩ = some (.slice (some ⟨b, off + k * 32, none⟩) 32 (cap - k * 32)) := (HB.out.cell (p := ⟨gS, k, none⟩) hgw).trans (hcS k hlt)
      have HRd := hide (show Rd .u8 wr (.slice (some ⟨b, off + k * 32, none⟩) 32 (cap - k * 32)) (slotK zs k) from Rd.cut (k * 32) 32 (Nat.lt_of_lt_of_le hbw HW.out.size) (by unfold maxLen; omega) hcap (fun i hi => (HW.out.cell (p := ⟨b, off + i, none⟩) hbw).trans (hcell i hi)) hl1)
      have HL := hide (show (slotK zs k).length = 32 ∧ ∀ z ∈ slotK zs k, 0 ≤ z ∧ z < 256 from ⟨by unfold slotK; rw [List.length_take, List.length_drop]; omega, fun z hz => HX.out z (List.mem_of_mem_drop (List.mem_of_mem_take hz))⟩)
      clear hcell hcS
      go_wp2_with (go_at_call 112; fail)
      refine (entry_any b (off + k * 32) (cap - k * 32) (slotK zs k) _ HRd.out HL.out.1 HL.out.2).mono ?_
      rintro e w3 ⟨n3, ino3, kd3, rfl, hr3, b3⟩
      have H3 := hide hr3
      have B3 := hide b3
      have HK := hide (show Blk (w3.alloc (.cells (entC ⟨#[]⟩ 0 0) 61)) w3.heap.size (entC ⟨#[]⟩ 0 0) 61 ∧ Below w3.heap.size w3 (w3.alloc (.cells (entC ⟨#[]⟩ 0 0) 61)) from ⟨Blk.new _ _ _, (Below.refl _ _).alloc (Nat.le_refl _) _⟩)
      clear hr3 b3 HRd HL c1
      cases hq : sRight (slotK zs k) with
      | false =>
        have HNo := hide (show ∀ j, j < k + 1 → atK zs nm j = false from fun j hj => by rcases Nat.lt_succ_iff_lt_or_eq.1 hj with h1 | h1; exact HAll.out j h1; subst h1; unfold atK; rw [hq]; rfl)
        clear hq
        go_wp2_with (refine wpList_store_newD w3.heap.size w3 rfl 61 _ _ rfl w3.heap.size (entC n3 ino3 kd3) rfl rfl 61 (entC ⟨#[]⟩ 0 0) HK.out.1 infoD3 rfl entC_one HK.out.2 (Nat.le_refl _) ?_; intro w4 k4 b4; have K4 := hide k4; have B4 := hide b4; clear k4 b4)
        go_roundw
        case rel => exact ⟨k + 1, by omega, by go_num, HNo.out, HB.out.trans ((B3.out.trans (B4.out.mono B3.out.size)).mono HB.out.size)⟩
        case measure => simp [intOf]; omega
      | true =>
        obtain ⟨rfl, rfl, rfl⟩ := H3.out hq
        have HQ := hide hq
        clear hq
        by_cases hnm : (sName (slotK zs k)).toList = nm.toList
        · have HF := hide (show atI zs nm = (k : Int) from by
            rw [HAt.out, firstK_some hlt HAll.out (by unfold atK; rw [HQ.out, hnm]; simp)])
          have hnb : ((sName (slotK zs k)).toList == nm.toList) = true := by rw [hnm]; simp
          clear hnm
          generalize sName (slotK zs k) = n3 at hnb ⊢
          go_wp2_with (refine wpList_store_newD w3.heap.size w3 rfl 61 _ _ rfl w3.heap.size (entC n3 _ _) rfl rfl 61 (entC ⟨#[]⟩ 0 0) HK.out.1 infoD3 rfl entC_one HK.out.2 (Nat.le_refl _) ?_; intro w4 k4 b4; have K4 := hide k4; have cN := (k4.cell 0).trans (show _ = some (.string n3) from rfl); have B4 := hide b4; clear k4 b4)
          go_ret
          exact ⟨ret_int HF.out.symm, HW.out.trans ((B3.out.trans (B4.out.mono B3.out.size)).mono HW.out.size)⟩
        · have HNo := hide (show ∀ j, j < k + 1 → atK zs nm j = false from fun j hj => by rcases Nat.lt_succ_iff_lt_or_eq.1 hj with h1 | h1; exact HAll.out j h1; subst h1; unfold atK; simp [hnm])
          have hnb : ((sName (slotK zs k)).toList == nm.toList) = false := by simp [hnm]
          clear hnm
          generalize sName (slotK zs k) = n3 at hnb ⊢
          go_wp2_with (refine wpList_store_newD w3.heap.size w3 rfl 61 _ _ rfl w3.heap.size (entC n3 _ _) rfl rfl 61 (entC ⟨#[]⟩ 0 0) HK.out.1 infoD3 rfl entC_one HK.out.2 (Nat.le_refl _) ?_; intro w4 k4 b4; have K4 := hide k4; have cN := (k4.cell 0).trans (show _ = some (.string n3) from rfl); have B4 := hide b4; clear k4 b4)
          go_roundw
          case rel => exact ⟨k + 1, by omega, by go_num, HNo.out, HB.out.trans ((B3.out.trans (B4.out.mono B3.out.size)).mono HB.out.size)⟩
          case measure => simp [intOf]; omega
    · obtain rfl : k = N := by omega
      have HF := hide (show atI zs nm = -1 from by rw [HAt.out, firstK_none HAll.out])
      go_wp2
      go_ret
      exact ⟨ret_int HF.out.symm, HW.out⟩
end Go.Proofs.YtplieplmhdfndaaGreatDoor

namespace Go.Proofs.YtplieplmhdfndaaGreatDoor
set_option linter.unusedVariables false
set_option linter.unusedSimpArgs false
open Go.RowKit

end Go.Proofs.YtplieplmhdfndaaGreatDoor
