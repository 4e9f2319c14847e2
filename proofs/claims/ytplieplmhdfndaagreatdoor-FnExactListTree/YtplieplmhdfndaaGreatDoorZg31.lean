/- The program's openDirectory. -/
import Derived.Test.YtplieplmhdfndaaGreatDoorZg30
import Derived.Maps.OwnIn
import Derived.Sort.QuietIn
namespace Go.Proofs.YtplieplmhdfndaaGreatDoor
set_option linter.unusedVariables false
set_option linter.unusedSimpArgs false
open Go.RowKit Go.Shelf
attribute [local go_sem] Oper.semAt_some

theorem run_makeHint (w : World) (z : Int) : (Instr.makeMap 114 (some (.int .i64 z))).run Tryz.prog w = .ok (.map (some w.heap.size)) (w.alloc (.map #[] 0)) := by
  simp only [Instr.makeMap, Sem.run_bind, run_underlying Tryz.underlying114, Result.andThen_ok]
  rfl
theorem results_box2 {fn : Func} {p q : Tmp} (h : fn.results = #[.cell p 79, .cell q 72]) (tmps : Array Value) (w : World) (R1 R2 : Nat) (v1 v2 : Value) (hp : tmps.getD p undef = .pointer (some ⟨R1, 0, none⟩)) (hq : tmps.getD q undef = .pointer (some ⟨R2, 0, none⟩))
    (h1 : Boxed w R1 79 v1) (h2 : Boxed w R2 72 v2) : (results fn tmps).run Tryz.prog w = .ok (.tuple #[v1, v2]) w := by
  have c1 := h1.cell
  have c2 := h2.cell
  have hp' : tmps[p]?.getD undef = .pointer (some ⟨R1, 0, none⟩) := by rw [← Array.getD_eq_getD_getElem?]; exact hp
  have hq' : tmps[q]?.getD undef = .pointer (some ⟨R2, 0, none⟩) := by rw [← Array.getD_eq_getD_getElem?]; exact hq
  simp only [results, h]
  go_simp
theorem Dr.keepE {H : Type} {base base' : Nat} {W W' : World} {b mb n nn : Nat} {v : Value} {xs : List Value} {D : DataW H} (h : Dr base W b mb n nn v xs D) (hl : base' ≤ base) (hb : W'.heap[b]? = W.heap[b]?) (hm : W'.heap[mb]? = W.heap[mb]?) (hg : ∀ g C t f, base ≤ g → W.heap[g]? = some (.cells C t f) → W'.heap[g]? = W.heap[g]?) : Dr base' W' b mb n nn v xs D := by
  refine ⟨hb.trans h.blk, ⟨h.own.1, ?_⟩, h.ne, ?_, h.nb⟩
  · rcases h.own.2 with h0 | ⟨g, cap, cur, rfl, hbg, hgg, rest⟩
    · exact .inl h0
    · exact .inr ⟨g, cap, cur, rfl, Nat.le_trans hl hbg, (hg g _ _ _ hbg hgg).trans hgg, rest⟩
  · obtain ⟨es, ck, e1, e2⟩ := h.map
    exact ⟨es, ck, hm.trans e1, e2⟩
theorem FaultIs.putO {W : World} {lo : Nat} {ok : Bool} {ev : Value} {code : Int} {D : Nat} {o o' : Obj} (h : FaultIs W lo ok ev code) (hD : W.heap[D]? = some o) (ho : o.isCells = false) : FaultIs (W.putObj D o') lo ok ev code := by
  refine h.keepC fun k q v hk hc => ?_
  have hne : k ≠ D := by
    intro e
    subst e
    unfold World.cell? at hc
    rw [hD] at hc
    cases o <;> simp_all [Obj.isCells]
  exact (World.cell?_of_block (a := ⟨k, q, none⟩) (show (W.putObj D o').heap[k]? = W.heap[k]? from World.putObj_heap_other hne)).trans hc
theorem slotK_len {zs : List Int} {k : Nat} (h : k * 32 + 32 ≤ zs.length) : (slotK zs k).length = 32 := by simp [slotK]; omega
theorem slotK_bd {zs : List Int} (h : ∀ z ∈ zs, 0 ≤ z ∧ z < 256) (k : Nat) : ∀ z ∈ slotK zs k, 0 ≤ z ∧ z < 256 := fun z hz => h z (List.mem_of_mem_drop (List.mem_of_mem_take hz))
theorem Rd.pieceK {w : World} {b off k : Nat} {zs : List Int} (hb : b < w.heap.size) (hk : k * 32 + 32 ≤ zs.length) (hcell : ∀ i, i < zs.length → w.cell? ⟨b, off + i, none⟩ = some (.int .u8 (zs.getD i 0))) : Rd .u8 w (pieceV b off zs.length 32 k) (slotK zs k) := by
  have hl := slotK_len hk
  refine ⟨_, _, by rw [hl]; unfold pieceV; rw [show min 32 (zs.length - k * 32) = 32 by omega], by rw [hl]; unfold maxLen; omega, fun _ => ⟨b, off + k * 32, rfl, hb, fun i hi => ?_⟩, by rw [hl]; exact Nat.le_refl _, by unfold maxLen; omega⟩
  rw [hl] at hi
  rw [Nat.add_assoc, hcell (k * 32 + i) (by omega)]
  simp [slotK, List.getD, show i < 32 by omega]
/-- A name looked up, whatever has been drawn. -/
theorem lookD {H : Type} {w : World} {mb nn : Nat} {D : DataW H} (h : w.ownsMap Tryz.prog 9 (plainElem (H := H) Tryz.prog 3) mb nn D) (nm : ByteArray) (hnm : nm.size ≤ maxLen) :
    ∃ c : Int, ∀ q, (Instr.lookup 114 (.map (some mb)) (.string nm) true).run Tryz.prog (w.drewN q) = .ok (.tuple #[.int .i64 c, .bool (Maps.has D (.string nm.data.toList))]) (w.drewN q) := by
  have key : ∀ q, ∃ c : Int, (Instr.lookup 114 (.map (some mb)) (.string nm) true).run Tryz.prog (w.drewN q) = .ok (.tuple #[.int .i64 c, .bool (Maps.has D (.string nm.data.toList))]) (w.drewN q) ∧ D.atKey (.string nm.data.toList) (.lit (.int .i64 0)) = .lit (.int .i64 c) := by
    intro q
    have h' : (w.drewN q).ownsMap Tryz.prog 9 (plainElem (H := H) Tryz.prog 3) mb nn D := h
    obtain ⟨v, ps, hrun, hv⟩ := h'.look_ok (Maps.string_keyed Tryz.underlying9) Tryz.underlying114 (z := .int .i64 0) (Tryz.zeroValue3 _) (plainElem_int Tryz.underlying3 (by decide)) (WideMaps.keyOf_string_mk Tryz.underlying9 hnm)
    obtain ⟨c, rfl, hc, _⟩ := plainElem_int_inv Tryz.underlying3 hv
    exact ⟨c, hrun, congrArg Prod.fst hc⟩
  obtain ⟨c, h0, hc⟩ := key 0
  refine ⟨c, fun q => ?_⟩
  obtain ⟨c', h1, hc'⟩ := key q
  rw [hc] at hc'
  cases hc'
  exact h1
set_option maxRecDepth 100000 in
set_option maxHeartbeats 4000000 in
theorem openDir_ok {H : Type} (b off cap : Nat) (a : Option Addr) (zs : List Int) (w : World) (h : Rd .u8 w (.slice a zs.length cap) zs) (hbd : ∀ z ∈ zs, 0 ≤ z ∧ z < 256) (hl : zs.length ≤ 262144) (h512 : zs.length % 512 = 0) :
    Calls Tryz.prog 52 #[.slice a zs.length cap] w fun e w' => ∃ pa ev, e = .returned (.tuple #[.pointer pa, ev]) ∧ FaultIs w' w.heap.size (dirOk zs) ev 21 ∧ Below w.heap.size w w' ∧ (dirOk zs = true → ∃ d mb nn v', pa = some ⟨d, 0, none⟩ ∧ w.heap.size ≤ d ∧ w.heap.size ≤ mb ∧ nn ≤ zs.length / 32 ∧ Dr (H := H) w.heap.size w' d mb (zs.length / 32) nn v' (entsI (slotsL zs (zs.length / 32))) (mapR H zs (List.range (zs.length / 32)).reverse)) := by
  have h512i : ((zs.length : Int) % 512) = 0 := by omega
  have hli : (zs.length : Int) ≤ 262144 := by omega
  have HRd := hide h
  obtain ⟨a', cap', hsv', h0⟩ := h
  cases hsv'
  obtain ⟨wR, hwR⟩ : ∃ wR, wR = (w.alloc (.cells #[.pointer none] 79)).alloc (.cells #[.nilIface] 72) := ⟨_, rfl⟩
  have hsR : wR.heap.size = w.heap.size + 1 + 1 := by rw [hwR]; simp
  have hbR : Below w.heap.size w wR := by rw [hwR]; exact ((Below.refl _ _).alloc (Nat.le_refl _) _).alloc (by simp) _
  have hx1 : Boxed wR w.heap.size 79 (.pointer none) := by rw [hwR]; exact (Boxed.new w _ _).alloc _
  have hx2 : Boxed wR (w.heap.size + 1) 72 .nilIface := by
    have h := Boxed.new (w.alloc (.cells #[.pointer none] 79)) 72 .nilIface
    rw [World.size_alloc] at h
    rw [hwR]; exact h
  have K0 := hide (And.intro (Ck.fresh wR 21 127) (hbR.alloc hbR.size (.cells #[.int .i64 21, .nilIface] 127)))
  have HWR := hide hwR
  have HXB := hide (And.intro hx1 hx2)
  clear hwR hbR hx1 hx2
  refine (callsIn_wide (n := 6)).1 ?_
  refine callsIn_of_wp_marks Tryz.func52 rfl trivial ?_ rfl
  simp only [Tryz.ntmps52, List.size_toArray, List.length_cons, List.length_nil, Nat.reduceAdd, Nat.reduceSub, Array.replicate_succ, Array.replicate_zero, List.push_toArray, List.append_toArray, List.nil_append, List.cons_append]
  gi_wp2_with (refine ⟨trivial, ?_⟩; gi_at_call 86; fail)
  refine ⟨trivial, ?_⟩
  rw [← HWR.out, ← hsR]
  refine (callsIn_wide.2 (need_any wR.heap.size (wR.heap.size + 1) _ 21 true true _ K0.out.1 (by omega) (by simp))).mono ?_
  rintro e w1 ⟨rfl, hc1, ht1⟩
  have K1 := hide (And.intro hc1 (show Below w.heap.size w w1 from K0.out.2.grown ht1.1 (by simp; omega) (fun k e => by cases e; omega)))
  have hs1 : wR.heap.size + 1 ≤ w1.heap.size := by have := ht1.1.size; simp at this; omega
  have KX := hide (And.intro (Boxed.kept (HXB.out.1.alloc (.cells #[.int .i64 21, .nilIface] 127)) ht1.1 (by simp; omega)) (Boxed.kept (HXB.out.2.alloc (.cells #[.int .i64 21, .nilIface] 127)) ht1.1 (by simp; omega)))
  clear hc1 ht1 K0
  rw [Bool.true_and] at K1
  obtain ⟨e1, c1, hf1⟩ := K1.out.1.fault
  rw [hsR] at c1
  rcases hf1 with ⟨_, rfl⟩ | ⟨hf1, _⟩
  case inr => cases hf1
  have hmk := run_makeHint w1 ((zs.length : Int) / 32)
  gi_wp2_with (first | (refine ⟨trivial, ?_⟩; gi_at_call 87; fail))
  refine ⟨trivial, ?_⟩
  refine (chunk_in _ 32 (by omega) (by omega) _ a zs.length cap).mono ?_
  rintro e w' ⟨rfl, rfl⟩
  gi_wp2
  have hM : w.heap.size + 3 ≤ w1.heap.size := by omega
  obtain ⟨M, hMe⟩ : ∃ M, M = w1.heap.size := ⟨_, rfl⟩
  obtain ⟨W1, hW1⟩ : ∃ W1, W1 = (((((w1.alloc (.map #[] 0)).alloc (.cells #[.slice none 0 0, .map (some w1.heap.size)] 116)).alloc (.cells #[.pointer (some ⟨w1.heap.size + 1, 0, none⟩)] 79)).alloc (.cells #[.slice a zs.length cap] 45)).alloc (.cells #[.int .i64 32] 3)) := ⟨_, rfl⟩
  have hsz : W1.heap.size = M + 5 := by rw [hW1, hMe]; simp
  have hB1 : Below w1.heap.size w1 W1 := by
    rw [hW1]
    exact (((((Below.refl _ _).alloc (Nat.le_refl _) _).alloc (by simp) _).alloc (by simp; omega) _).alloc (by simp; omega) _).alloc (by simp; omega) _
  have hmap : W1.heap[M]? = some (.map #[] 0) := by
    rw [hW1, hMe]
    rw [Below.heap_alloc _ _ _ (by simp; omega), Below.heap_alloc _ _ _ (by simp; omega), Below.heap_alloc _ _ _ (by simp; omega), Below.heap_alloc _ _ _ (by simp)]
    exact World.alloc_heap_new _ _
  have hdb : Blk W1 (M + 1) #[.slice none 0 0, .map (some M)] 116 := by
    have h := (((Blk.new (w1.alloc (.map #[] 0)) #[.slice none 0 0, .map (some w1.heap.size)] 116).alloc (.cells #[.pointer (some ⟨w1.heap.size + 1, 0, none⟩)] 79)).alloc (.cells #[.slice a zs.length cap] 45)).alloc (.cells #[.int .i64 32] 3)
    rw [World.size_alloc, ← hMe] at h
    rw [hW1, ← hMe]; exact h
  have hbd2 : Boxed W1 (M + 2) 79 (.pointer (some ⟨M + 1, 0, none⟩)) := by
    have h := ((Boxed.new ((w1.alloc (.map #[] 0)).alloc (.cells #[.slice none 0 0, .map (some w1.heap.size)] 116)) 79 (.pointer (some ⟨w1.heap.size + 1, 0, none⟩))).alloc (.cells #[.slice a zs.length cap] 45)).alloc (.cells #[.int .i64 32] 3)
    rw [World.size_alloc, World.size_alloc, ← hMe] at h
    rw [hW1, ← hMe]; exact h
  have hbx1 : Boxed W1 (M + 3) 45 (.slice a zs.length cap) := by
    have h := (Boxed.new (((w1.alloc (.map #[] 0)).alloc (.cells #[.slice none 0 0, .map (some w1.heap.size)] 116)).alloc (.cells #[.pointer (some ⟨w1.heap.size + 1, 0, none⟩)] 79)) 45 (.slice a zs.length cap)).alloc (.cells #[.int .i64 32] 3)
    rw [World.size_alloc, World.size_alloc, World.size_alloc, ← hMe] at h
    rw [hW1, ← hMe]; exact h
  have hbx2 : Boxed W1 (M + 4) 3 (.int .i64 ((32 : Nat) : Int)) := by
    have h := Boxed.new ((((w1.alloc (.map #[] 0)).alloc (.cells #[.slice none 0 0, .map (some w1.heap.size)] 116)).alloc (.cells #[.pointer (some ⟨w1.heap.size + 1, 0, none⟩)] 79)).alloc (.cells #[.slice a zs.length cap] 45)) 3 (.int .i64 32)
    rw [World.size_alloc, World.size_alloc, World.size_alloc, World.size_alloc, ← hMe] at h
    rw [hW1, ← hMe]; exact h
  have hOwn : W1.ownsMap Tryz.prog 9 (plainElem (H := H) Tryz.prog 3) M 0 (.map []) := ⟨#[], 0, hmap, ⟨by simp, MapKept.stamped_empty 0, by simp⟩, Nat.le_refl _, rfl⟩
  have hI0 : Iod H zs w M (.slice a zs.length cap) [] W1 := by
    have hr1 : Boxed w1 w.heap.size 79 (.pointer none) := KX.out.1
    have hr2 : Boxed w1 (w.heap.size + 1) 72 .nilIface := KX.out.2
    refine ⟨⟨.slice none 0 0, 0, ⟨hdb, ⟨rfl, Or.inl ⟨rfl, rfl⟩⟩, by simp [Value.ownBlock], hOwn, by omega⟩, Nat.le_refl _⟩, ⟨[], rfl⟩, ?_, (hB1.block _ (by omega)).trans hr1, (hB1.block _ (by omega)).trans hr2, hbd2, hbx1, hbx2, K1.out.2.trans (hB1.mono (by omega)), by omega⟩
    have h := (K1.out.1.below hB1).relo (lo' := M + 5)
    rw [hsR] at h
    exact h
  rw [← hW1]
  have hmx : Tryz.prog.follows .mixedOrders = true := by kernel_rfl
  have hcap := h0.2.2
  obtain ⟨b, off, hab⟩ : ∃ b off, 0 < zs.length → a = some ⟨b, off, none⟩ ∧ b < w.heap.size ∧ ∀ i, i < zs.length → w.cell? ⟨b, off + i, none⟩ = some (.int .u8 (zs.getD i 0)) := by
    rcases Nat.eq_zero_or_pos zs.length with h | h
    · exact ⟨0, 0, fun h2 => by omega⟩
    · obtain ⟨b, off, e, h1, h2⟩ := h0.2.1 (fun e => by rw [e] at h; simp at h)
      exact ⟨b, off, fun _ => ⟨e, h1, h2⟩⟩
  clear hW1 hmap hdb hbd2 hOwn c1 hmk
  have HI0 := hide hI0
  clear hI0
  subst hMe
  refine wpIn_rangeFunc_ownG rfl (by omega) (gf := 132) (lb := #[.pointer (some ⟨w1.heap.size + 1 + 1 + 1, 0, none⟩), .pointer (some ⟨w1.heap.size + 1 + 1 + 1 + 1, 0, none⟩)]) rfl trivial (enters_of Tryz.func132 (by kernel_rfl) rfl)
    (chunk_stopsF 5 (by omega) (w1.heap.size + 1 + 1 + 1) (w1.heap.size + 1 + 1 + 1 + 1) w.heap.size zs.length 32 a cap (by omega) (by omega) (by omega) hcap.1 hcap.2 b off (fun h => (hab h).1) W1 hbx1 hbx2) Kc.trans (Kc_b (by omega) (by omega) (by omega)) (Below.refl _ _) (fun _ => rfl)
    (fun pre W => Iod H zs w w1.heap.size (.slice a zs.length cap) (pre.map Fin.val) W)
    (fun cd pre W => cd = .ret ∧ Ixd zs w w1.heap.size (pre.map Fin.val) W)
    (by rw [hsz]; exact fun pre X Y row h hg hr => Iod.own (by omega) _ X Y row h hg hr)
    (by rw [hsz]; exact fun cd pre X Y row h hg hr => ⟨h.1, Ixd.own (by omega) _ X Y row h.2 hg hr⟩)
    HI0.out
    (fun x => { tmps := #[.slice a zs.length cap, undef, .pointer (some ⟨w.heap.size, 0, none⟩), .pointer (some ⟨w.heap.size + 1, 0, none⟩), .pointer (some ⟨w.heap.size + 1 + 1, 0, none⟩), .pointer (some ⟨w1.heap.size + 1 + 1, 0, none⟩), pieceV b off zs.length 32 x.val, undef, undef, undef, undef, .agg #[.int .i64 21, .nilIface], .slice a zs.length cap, .int .i64 (zs.length : Int), .int .i64 0, .bool true, .bool true, .slice a zs.length cap, .int .i64 (zs.length : Int), .bool true, .bool true, .tuple #[], .pointer (some ⟨w.heap.size + 1 + 1, 1, none⟩), .nilIface, .bool false, undef, undef, .slice a zs.length cap, .int .i64 (zs.length : Int), .int .i64 ((zs.length : Int) / 32), .map (some w1.heap.size), .agg #[.slice none 0 0, .map (some w1.heap.size)], .pointer (some ⟨w1.heap.size + 1, 0, none⟩), .slice a zs.length cap, .func (.func 132) #[] #[.pointer (some ⟨w1.heap.size + 1 + 1 + 1, 0, none⟩), .pointer (some ⟨w1.heap.size + 1 + 1 + 1 + 1, 0, none⟩)], pieceV b off zs.length 32 x.val, undef, undef, undef, undef, undef, undef, undef, undef, undef, undef, undef, undef, undef, undef, undef, undef, undef, undef, undef, undef, undef, undef, undef, undef, undef, undef, undef, undef, undef, undef, undef, undef, undef, undef, undef], defers := [] })
    ?assign ?body ?done ?stop
  case assign =>
    intro l x W K hK
    gi_wp2
    exact hK
  case body =>
    rintro l pre x W hI hlt
    have hx := x.isLt
    have hL32 : x.val * 32 + 32 ≤ zs.length := by
      have := (pcs_lt zs.length 32 x.val (by omega)).1 hx
      omega
    obtain ⟨_, hbw, hcl⟩ := hab (by omega)
    have HRdK := hide (show Rd .u8 W (pieceV b off zs.length 32 x.val) (slotK zs x.val) from Rd.pieceK (Nat.lt_of_lt_of_le hbw hI.old.size) hL32 (fun i hi => (hI.old.cell (p := ⟨b, off + i, none⟩) hbw).trans (hcl i hi)))
    have HI := hide hI
    have HSl := hide (slotK_len hL32)
    have HBd := hide (slotK_bd hbd x.val)
    obtain ⟨sA, sL, sC, hsv⟩ : ∃ sA sL sC, pieceV b off zs.length 32 x.val = .slice sA sL sC := ⟨_, _, _, rfl⟩
    rw [hsv] at HRdK ⊢
    clear hI hsv hcl
    gi_wp2_with (first | (refine ⟨trivial, ?_⟩; gi_at_call 88; fail))
    refine ⟨trivial, ?_⟩
    refine (CallsIn.inRound l (callsIn_wide.2 (readSlot_any _ (slotK zs x.val) _ HRdK.out HSl.out HBd.out))).mono ?_
    rintro e w3 ⟨nm, ino, kd, ev, rfl, hf3, hz3, hr3, b3, hnm⟩
    have HE3 := hide (And.intro hf3 (And.intro hz3 hr3))
    have B3 := hide b3
    have HK := hide (show Blk (w3.alloc (.cells (entC ⟨#[]⟩ 0 0) 61)) w3.heap.size (entC ⟨#[]⟩ 0 0) 61 ∧ Below w3.heap.size w3 (w3.alloc (.cells (entC ⟨#[]⟩ 0 0) 61)) from ⟨Blk.new _ _ _, (Below.refl _ _).alloc (Nat.le_refl _) _⟩)
    clear hf3 hz3 hr3 b3 HRdK HSl HBd
    gi_wp2_with (first | (refine wpListIn_store_new w3.heap.size w3 rfl 61 _ _ rfl w3.heap.size (entC nm ino kd) rfl rfl 61 (entC ⟨#[]⟩ 0 0) HK.out.1 infoD3 rfl entC_one HK.out.2 (Nat.le_refl _) ?_; intro w4 k4 b4; have K4 := hide k4; have B4 := hide b4; clear k4 b4) | (refine ⟨trivial, ?_⟩; gi_at_call 61; fail))
    refine ⟨trivial, ?_⟩
    have hsW := HI.out.size
    have hs3 := B3.out.size
    have hs4 := B4.out.size
    have hk4 := K4.out.lt
    have hsO := HI.out.old.size
    have HB4 := hide (B3.out.trans (B4.out.mono B3.out.size))
    have HF4 := hide (show FaultIs w4 (w1.heap.size + 5) (sZero (slotK zs x.val) || sRight (slotK zs x.val)) ev 21 from (HE3.out.1.below B4.out).mono (by omega))
    refine (CallsIn.inRound l (callsIn_wide.2 (inside_both (w.heap.size + 2) (w1.heap.size + 5) _ 21 true _ ev _ (HI.out.ck.below HB4.out) HF4.out (by omega) (by omega)))).mono ?_
    rintro e w5 ⟨rfl, hc5, ht5⟩
    rw [Bool.true_and] at hc5
    have hs5 := ht5.1.size
    obtain ⟨dv, nn, hdr, hnn⟩ := HI.out.dir
    have HDr := hide hdr
    have hown : ∀ k, k < w1.heap.size + 5 → dv.ownBlock ≠ some k := fun k hk e => by have := (hdr.own.lt k e).1; omega
    have D5 := hide ((hdr.keepB HB4.out).keepG ht5.1 (by simp; omega) (by simp; omega) (.inr (hown _ (by omega))))
    have E5 := hide (show Blk w5 w3.heap.size (entC nm ino kd) 61 from (ht5.1.block _ hk4 (by simp; omega)).trans K4.out)
    have bd5 : Boxed w5 (w1.heap.size + 2) 79 (.pointer (some ⟨w1.heap.size + 1, 0, none⟩)) := (ht5.1.block _ (by omega) (by simp; omega)).trans ((HB4.out.block _ (by omega)).trans HI.out.bd)
    have cD : w5.cell? ⟨w1.heap.size + 1 + 1, 0, none⟩ = some (.pointer (some ⟨w1.heap.size + 1, 0, none⟩)) := bd5.cell
    have cM : w5.cell? ⟨w1.heap.size + 1, 1, none⟩ = some (.map (some w1.heap.size)) := (D5.out.blk.cell 1).trans rfl
    have cN : w5.cell? ⟨w3.heap.size, 0, none⟩ = some (.string nm) := (E5.out.cell 0).trans rfl
    obtain ⟨lc, hlk⟩ := lookD D5.out.map nm hnm
    obtain ⟨has, hhas⟩ : ∃ has, has = Maps.has (mapR H zs (pre.map Fin.val).reverse) (.string nm.data.toList) := ⟨_, rfl⟩
    rw [← hhas] at hlk
    have HHas := hide hhas
    clear hhas
    have hlk0 := hlk 0
    have HBd5 := hide bd5
    have C5 := hide (And.intro hc5 ht5)
    clear hc5 ht5 hdr K4 HK bd5
    have hlkD : (Instr.lookup 114 (.map (some w1.heap.size)) (.string nm) true).run Tryz.prog (World.drew w5) = .ok (.tuple #[.int .i64 lc, .bool has]) (World.drew w5) := hlk 1
    clear hlk hlk0
    gi_wp2
    refine wpIn_region_any (by kernel_rfl) ?_
    change wpAnyIn _ _ _ _ _ _ _ _ _ (World.drew w5)
    refine wpAnyIn_invB [(2, .pointer (some ⟨w.heap.size, 0, none⟩)), (3, .pointer (some ⟨w.heap.size + 1, 0, none⟩)), (4, .pointer (some ⟨w.heap.size + 1 + 1, 0, none⟩)), (5, .pointer (some ⟨w1.heap.size + 1 + 1, 0, none⟩)), (7, .pointer (some ⟨w3.heap.size, 0, none⟩))] (fun w' => w' = World.drew w5) (fun i v _ => v = ([.pointer (some ⟨w1.heap.size + 1, 0, none⟩), .pointer (some ⟨w1.heap.size + 1, 0, none⟩), .pointer (some ⟨w1.heap.size + 1, 1, none⟩), .map (some w1.heap.size), .pointer (some ⟨w3.heap.size, 0, none⟩), .string nm, .tuple #[.int .i64 lc, .bool has], .tuple #[.int .i64 lc, .bool has], .int .i64 lc, .bool has, .int .i64 lc, .bool has] : List Value).getD i undef) 71 [] (by kernel_rfl) ?hstep ?hfin _ _ rfl rfl rfl (by
      intro t v h
      simp only [List.mem_cons, List.not_mem_nil, or_false, Prod.mk.injEq] at h
      rcases h with ⟨rfl, rfl⟩ | ⟨rfl, rfl⟩ | ⟨rfl, rfl⟩ | ⟨rfl, rfl⟩ | ⟨rfl, rfl⟩ <;> rfl)
    case hstep =>
      intro i o listed ac wz hi hall hI10
      have hw10 := hI10.held
      subst hw10
      have f5 : ac.tmps.getD 5 undef = .pointer (some ⟨w1.heap.size + 1 + 1, 0, none⟩) := hI10.fix 5 _ (by simp)
      have f7 : ac.tmps.getD 7 undef = .pointer (some ⟨w3.heap.size, 0, none⟩) := hI10.fix 7 _ (by simp)
      match i, hi with
      | 0, hi =>
        obtain rfl := Option.some.inj hi
        exact ⟨by rfl, (fun c => by intro h; cases h), (fun c => by intro h; cases h), .value (.pointer (some ⟨w1.heap.size + 1, 0, none⟩)), (.pointer (some ⟨w1.heap.size + 1, 0, none⟩)), _, by go_simp, .inl rfl, rfl, rfl, fun _ _ h => h⟩
      | 1, hi =>
        obtain rfl := Option.some.inj hi
        have v0 : ac.tmps.getD 44 undef = .pointer (some ⟨w1.heap.size + 1, 0, none⟩) := hI10.at hall 0 44 rfl rfl (by rfl)
        exact ⟨by rfl, (fun c => by intro h; cases h), (fun c => by intro h; cases h), .value (.pointer (some ⟨w1.heap.size + 1, 0, none⟩)), (.pointer (some ⟨w1.heap.size + 1, 0, none⟩)), _, by go_simp, .inl rfl, rfl, rfl, fun _ _ h => h⟩
      | 2, hi =>
        obtain rfl := Option.some.inj hi
        have v1 : ac.tmps.getD 45 undef = .pointer (some ⟨w1.heap.size + 1, 0, none⟩) := hI10.at hall 1 45 rfl rfl (by rfl)
        exact ⟨by rfl, (fun c => by intro h; cases h), (fun c => by intro h; cases h), .value (.pointer (some ⟨w1.heap.size + 1, 1, none⟩)), (.pointer (some ⟨w1.heap.size + 1, 1, none⟩)), _, by go_simp, .inl rfl, rfl, rfl, fun _ _ h => h⟩
      | 3, hi =>
        obtain rfl := Option.some.inj hi
        have v2 : ac.tmps.getD 46 undef = .pointer (some ⟨w1.heap.size + 1, 1, none⟩) := hI10.at hall 2 46 rfl rfl (by rfl)
        exact ⟨by rfl, (fun c => by intro h; cases h), (fun c => by intro h; cases h), .value (.map (some w1.heap.size)), (.map (some w1.heap.size)), _, by go_simp, .inl rfl, rfl, rfl, fun _ _ h => h⟩
      | 4, hi =>
        obtain rfl := Option.some.inj hi
        exact ⟨by rfl, (fun c => by intro h; cases h), (fun c => by intro h; cases h), .value (.pointer (some ⟨w3.heap.size, 0, none⟩)), (.pointer (some ⟨w3.heap.size, 0, none⟩)), _, by go_simp, .inl rfl, rfl, rfl, fun _ _ h => h⟩
      | 5, hi =>
        obtain rfl := Option.some.inj hi
        have v4 : ac.tmps.getD 48 undef = .pointer (some ⟨w3.heap.size, 0, none⟩) := hI10.at hall 4 48 rfl rfl (by rfl)
        exact ⟨by rfl, (fun c => by intro h; cases h), (fun c => by intro h; cases h), .value (.string nm), (.string nm), _, by go_simp, .inl rfl, rfl, rfl, fun _ _ h => h⟩
      | 6, hi =>
        obtain rfl := Option.some.inj hi
        have v3 : ac.tmps.getD 47 undef = .map (some w1.heap.size) := hI10.at hall 3 47 rfl rfl (by rfl)
        have v5 : ac.tmps.getD 49 undef = .string nm := hI10.at hall 5 49 rfl rfl (by rfl)
        exact ⟨by rfl, (fun c => by intro h; cases h), (fun c => by intro h; cases h), .value (.tuple #[.int .i64 lc, .bool has]), (.tuple #[.int .i64 lc, .bool has]), _, by go_simp, .inl rfl, rfl, rfl, fun _ _ h => h⟩
      | 7, hi =>
        obtain rfl := Option.some.inj hi
        have v6 : ac.tmps.getD 50 undef = .tuple #[.int .i64 lc, .bool has] := hI10.at hall 6 50 rfl rfl (by rfl)
        exact ⟨by rfl, (fun c => by intro h; cases h), (fun c => by intro h; cases h), .value (.tuple #[.int .i64 lc, .bool has]), (.tuple #[.int .i64 lc, .bool has]), _, by go_simp, .inl rfl, rfl, rfl, fun _ _ h => h⟩
      | 8, hi =>
        obtain rfl := Option.some.inj hi
        have v7 : ac.tmps.getD 43 undef = .tuple #[.int .i64 lc, .bool has] := hI10.at hall 7 43 rfl rfl (by rfl)
        exact ⟨by rfl, (fun c => by intro h; cases h), (fun c => by intro h; cases h), .value (.int .i64 lc), (.int .i64 lc), _, by go_simp, .inl rfl, rfl, rfl, fun _ _ h => h⟩
      | 9, hi =>
        obtain rfl := Option.some.inj hi
        have v7 : ac.tmps.getD 43 undef = .tuple #[.int .i64 lc, .bool has] := hI10.at hall 7 43 rfl rfl (by rfl)
        exact ⟨by rfl, (fun c => by intro h; cases h), (fun c => by intro h; cases h), .value (.bool has), (.bool has), _, by go_simp, .inl rfl, rfl, rfl, fun _ _ h => h⟩
      | 10, hi =>
        obtain rfl := Option.some.inj hi
        have v8 : ac.tmps.getD 51 undef = .int .i64 lc := hI10.at hall 8 51 rfl rfl (by rfl)
        exact ⟨by rfl, (fun c => by intro h; cases h), (fun c => by intro h; cases h), .value (.int .i64 lc), (.int .i64 lc), _, by go_simp, .inl rfl, rfl, rfl, fun _ _ h => h⟩
      | 11, hi =>
        obtain rfl := Option.some.inj hi
        have v9 : ac.tmps.getD 52 undef = .bool has := hI10.at hall 9 52 rfl rfl (by rfl)
        exact ⟨by rfl, (fun c => by intro h; cases h), (fun c => by intro h; cases h), .value (.bool has), (.bool has), _, by go_simp, .inl rfl, rfl, rfl, fun _ _ h => h⟩
      | k + 12, hi => exact absurd hi (by simp)
    case hfin =>
      intro listed ac wz hall hI10
      have hw10 := hI10.held
      subst hw10
      have f2 := hI10.fix 2 (.pointer (some ⟨w.heap.size, 0, none⟩)) (by simp)
      have f3 := hI10.fix 3 (.pointer (some ⟨w.heap.size + 1, 0, none⟩)) (by simp)
      have f4 := hI10.fix 4 (.pointer (some ⟨w.heap.size + 1 + 1, 0, none⟩)) (by simp)
      have f5 := hI10.fix 5 (.pointer (some ⟨w1.heap.size + 1 + 1, 0, none⟩)) (by simp)
      have f7 := hI10.fix 7 (.pointer (some ⟨w3.heap.size, 0, none⟩)) (by simp)
      have v11 : ac.tmps.getD 10 undef = .bool has := hI10.vals 11 _ 10 rfl (hall 11 (by decide)) rfl
      have hsz10 := hI10.sz
      have hdf10 := hI10.df
      clear hI10 hall
      obtain ⟨tm, df⟩ := ac
      have hT := tmps71 tm hsz10
      simp only at f2 f3 f4 f5 f7 v11 hdf10
      rw [f2, f3, f4, f5, f7, v11] at hT
      rw [hT, hdf10]
      clear hT hsz10 hdf10 f2 f3 f4 f5 f7 v11
      generalize tm.getD 0 undef = z0
      generalize tm.getD 1 undef = z1
      generalize tm.getD 6 undef = z6
      generalize tm.getD 8 undef = z8
      generalize tm.getD 9 undef = z9
      generalize tm.getD 11 undef = z11
      generalize tm.getD 12 undef = z12
      generalize tm.getD 13 undef = z13
      generalize tm.getD 14 undef = z14
      generalize tm.getD 15 undef = z15
      generalize tm.getD 16 undef = z16
      generalize tm.getD 17 undef = z17
      generalize tm.getD 18 undef = z18
      generalize tm.getD 19 undef = z19
      generalize tm.getD 20 undef = z20
      generalize tm.getD 21 undef = z21
      generalize tm.getD 22 undef = z22
      generalize tm.getD 23 undef = z23
      generalize tm.getD 24 undef = z24
      generalize tm.getD 25 undef = z25
      generalize tm.getD 26 undef = z26
      generalize tm.getD 27 undef = z27
      generalize tm.getD 28 undef = z28
      generalize tm.getD 29 undef = z29
      generalize tm.getD 30 undef = z30
      generalize tm.getD 31 undef = z31
      generalize tm.getD 32 undef = z32
      generalize tm.getD 33 undef = z33
      generalize tm.getD 34 undef = z34
      generalize tm.getD 35 undef = z35
      generalize tm.getD 36 undef = z36
      generalize tm.getD 37 undef = z37
      generalize tm.getD 38 undef = z38
      generalize tm.getD 39 undef = z39
      generalize tm.getD 40 undef = z40
      generalize tm.getD 41 undef = z41
      generalize tm.getD 42 undef = z42
      generalize tm.getD 43 undef = z43
      generalize tm.getD 44 undef = z44
      generalize tm.getD 45 undef = z45
      generalize tm.getD 46 undef = z46
      generalize tm.getD 47 undef = z47
      generalize tm.getD 48 undef = z48
      generalize tm.getD 49 undef = z49
      generalize tm.getD 50 undef = z50
      generalize tm.getD 51 undef = z51
      generalize tm.getD 52 undef = z52
      generalize tm.getD 53 undef = z53
      generalize tm.getD 54 undef = z54
      generalize tm.getD 55 undef = z55
      generalize tm.getD 56 undef = z56
      generalize tm.getD 57 undef = z57
      generalize tm.getD 58 undef = z58
      generalize tm.getD 59 undef = z59
      generalize tm.getD 60 undef = z60
      generalize tm.getD 61 undef = z61
      generalize tm.getD 62 undef = z62
      generalize tm.getD 63 undef = z63
      generalize tm.getD 64 undef = z64
      generalize tm.getD 65 undef = z65
      generalize tm.getD 66 undef = z66
      generalize tm.getD 67 undef = z67
      generalize tm.getD 68 undef = z68
      generalize tm.getD 69 undef = z69
      generalize tm.getD 70 undef = z70
      clear tm hlkD cD cM cN
      gi_wp2_with (refine ⟨trivial, ?_⟩; gi_at_call 86; fail)
      refine ⟨trivial, ?_⟩
      refine (CallsIn.inRound l (callsIn_wide.2 (need_any (w.heap.size + 2) (w1.heap.size + 5) _ 21 _ (!has) _ (C5.out.1.below ((Below.refl _ _).drew)) (by omega) (show _ ≤ w5.heap.size by omega)))).mono ?_
      rintro e w6 ⟨rfl, hc6, ht6⟩
      have ht56 : Tch (w.heap.size + 2) w5 w6 := ⟨⟨ht6.1.os, ht6.1.tape, ht6.1.output, ht6.1.size, ht6.1.block⟩, ht6.2.1, ht6.2.2⟩
      have hs6 := ht56.1.size
      have T6 := hide (C5.out.2.trans ht56)
      have D6 := hide (D5.out.keepG ht56.1 (by simp; omega) (by simp; omega) (.inr (hown _ (by omega))))
      have E6 := hide (show Blk w6 w3.heap.size (entC nm ino kd) 61 from (ht56.1.block _ E5.out.lt (by simp; omega)).trans E5.out)
      have bd6 : Boxed w6 (w1.heap.size + 2) 79 (.pointer (some ⟨w1.heap.size + 1, 0, none⟩)) := (ht56.1.block _ (by omega) (by simp; omega)).trans HBd5.out
      have HSE := hide (show (sZero (slotK zs x.val) || sRight (slotK zs x.val)) = true → (nm, ino, kd) = slotE zs x.val from by
        intro hok
        unfold slotE
        cases hz : sZero (slotK zs x.val) with
        | true =>
          obtain ⟨rfl, rfl, rfl⟩ := HE3.out.2.1 hz
          rw [if_pos rfl]
        | false =>
          rw [hz, Bool.false_or] at hok
          obtain ⟨rfl, rfl, rfl⟩ := HE3.out.2.2 hok
          rw [if_neg (by decide)])
      have HRev := hide (show ((pre ++ [x]).map Fin.val) = pre.map Fin.val ++ [x.val] from by simp)
      obtain ⟨es, hes⟩ := HI.out.ent
      obtain ⟨e6, c6, hf6⟩ := hc6.fault
      have C6 := hide hc6
      clear hc6 ht6 ht56 C5 D5 E5 HBd5
      cases hok : ((sZero (slotK zs x.val) || sRight (slotK zs x.val)) && !has) with
      | false =>
        rw [hok] at hf6
        rcases hf6 with ⟨hf6, _⟩ | ⟨_, m6, hf6⟩
        · cases hf6
        obtain ⟨t6, x6, rfl⟩ := hf6.iface
        have HF6 := hide hf6
        have HEnt := hide (show entR zs (pre.map Fin.val ++ [x.val]).reverse = none from by
          rw [List.reverse_append]
          show entR zs (x.val :: (pre.map Fin.val).reverse) = none
          cases hk : (sZero (slotK zs x.val) || sRight (slotK zs x.val)) with
          | false => exact entR_stop hk
          | true =>
            rw [hk, Bool.true_and] at hok
            have h1 := entR_step H hes hk
            have h2 := HSE.out hk
            rw [← h2, ← HHas.out, hok] at h1
            cases h3 : entR zs (x.val :: (pre.map Fin.val).reverse) with
            | none => rfl
            | some q => rw [h3] at h1; cases h1)
        have r16 : Boxed w6 w.heap.size 79 (.pointer none) := (T6.out.1.block _ (by omega) (by simp <;> omega)).trans ((HB4.out.block _ (by omega)).trans HI.out.r1)
        have r26 : Boxed w6 (w.heap.size + 1) 72 .nilIface := (T6.out.1.block _ (by omega) (by simp <;> omega)).trans ((HB4.out.block _ (by omega)).trans HI.out.r2)
        have HR6 := hide (And.intro r16 r26)
        have c6' : w6.cell? ⟨w.heap.size + 1 + 1, 1, none⟩ = some (.iface t6 (.pointer (some x6))) := c6
        clear hf6 hok bd6 c6 r16 r26
        gi_wp2
        refine wpIn_region_any (by kernel_rfl) ?_
        change wpAnyIn _ _ _ _ _ _ _ _ _ (World.drew w6)
        refine wpAnyIn_invB [(2, .pointer (some ⟨w.heap.size, 0, none⟩)), (3, .pointer (some ⟨w.heap.size + 1, 0, none⟩)), (4, .pointer (some ⟨w.heap.size + 1 + 1, 0, none⟩))] (fun w' => (∀ k, k ≠ w.heap.size → k ≠ w.heap.size + 1 → w'.heap[k]? = w6.heap[k]?) ∧ w'.heap.size = w6.heap.size ∧ (w'.os = w6.os ∧ w'.tape = w6.tape ∧ w'.output = w6.output) ∧ Boxed w' w.heap.size 79 (.pointer none) ∧ ∃ u, Boxed w' (w.heap.size + 1) 72 u)
          (fun i v w' => (i = 0 → v = .pointer (some ⟨w.heap.size + 1 + 1, 1, none⟩)) ∧ (i = 1 → v = (.iface t6 (.pointer (some x6)))) ∧ (i = 3 → Boxed w' (w.heap.size + 1) 72 (.iface t6 (.pointer (some x6))))) 71 [] (by kernel_rfl) ?hstep3 ?hfin3 _ _ rfl rfl ⟨fun _ _ _ => rfl, rfl, ⟨rfl, rfl, rfl⟩, HR6.out.1, _, HR6.out.2⟩ (by
          intro t v h
          simp only [List.mem_cons, List.not_mem_nil, or_false, Prod.mk.injEq] at h
          rcases h with ⟨rfl, rfl⟩ | ⟨rfl, rfl⟩ | ⟨rfl, rfl⟩ <;> rfl)
        case hstep3 =>
          intro i o listed ac wz hi hall hI3
          obtain ⟨hb3, hsz3, hos3, h13, u3, h23⟩ := hI3.held
          have f2 : ac.tmps.getD 2 undef = .pointer (some ⟨w.heap.size, 0, none⟩) := hI3.fix 2 _ (by simp)
          have f3 : ac.tmps.getD 3 undef = .pointer (some ⟨w.heap.size + 1, 0, none⟩) := hI3.fix 3 _ (by simp)
          have f4 : ac.tmps.getD 4 undef = .pointer (some ⟨w.heap.size + 1 + 1, 0, none⟩) := hI3.fix 4 _ (by simp)
          have HI3 := hide hI3
          match i, hi with
          | 0, hi =>
            obtain rfl := Option.some.inj hi
            exact ⟨by rfl, (fun c => by intro h; cases h), (fun c => by intro h; cases h), .value (.pointer (some ⟨w.heap.size + 1 + 1, 1, none⟩)), _, wz, by go_simp, .inl rfl, ⟨fun _ => rfl, fun h => (by cases h), fun h => (by cases h)⟩, HI3.out.held, fun _ _ h => h⟩
          | 1, hi =>
            obtain rfl := Option.some.inj hi
            have v0 : ac.tmps.getD 59 undef = .pointer (some ⟨w.heap.size + 1 + 1, 1, none⟩) := (HI3.out.at hall 0 59 rfl rfl (by rfl)).1 rfl
            have hc3 : wz.cell? ⟨w.heap.size + 1 + 1, 1, none⟩ = some (.iface t6 (.pointer (some x6))) := (World.cell?_of_block (a := ⟨w.heap.size + 1 + 1, 1, none⟩) (hb3 _ (by simp; omega) (by simp))).trans c6'
            exact ⟨by rfl, (fun c => by intro h; cases h), (fun c => by intro h; cases h), .value (.iface t6 (.pointer (some x6))), _, wz, by go_simp, .inl rfl, ⟨fun h => (by cases h), fun _ => rfl, fun h => (by cases h)⟩, HI3.out.held, fun _ _ h => h⟩
          | 2, hi =>
            obtain rfl := Option.some.inj hi
            have hc3 := h13.cell
            have hf3 := h13.frozen
            refine ⟨by rfl, (fun c => by intro h; cases h), (fun c => by intro h; cases h), .skip, undef, wz.setCell ⟨w.heap.size, 0, none⟩ (.pointer none), by go_simp, .inr ⟨rfl, rfl⟩, ⟨fun h => (by cases h), fun h => (by cases h), fun h => (by cases h)⟩, ⟨fun k h1 h2 => (Below.heap_setCell wz ⟨w.heap.size, 0, none⟩ _ k (fun e => h1 e)).trans (hb3 k h1 h2), by simpa using hsz3, hos3, h13.set _, u3, h23.other (by omega) _⟩, fun j v h => ⟨h.1, h.2.1, fun hj => (h.2.2 hj).other (by omega) _⟩⟩
          | 3, hi =>
            obtain rfl := Option.some.inj hi
            have v1 : ac.tmps.getD 60 undef = (.iface t6 (.pointer (some x6))) := (HI3.out.at hall 1 60 rfl rfl (by rfl)).2.1 rfl
            have hc3 := h23.cell
            have hf3 := h23.frozen
            refine ⟨by rfl, (fun c => by intro h; cases h), (fun c => by intro h; cases h), .skip, undef, wz.setCell ⟨w.heap.size + 1, 0, none⟩ (.iface t6 (.pointer (some x6))), by go_simp, .inr ⟨rfl, rfl⟩, ⟨fun h => (by cases h), fun h => (by cases h), fun _ => h23.set _⟩, ⟨fun k h1 h2 => (Below.heap_setCell wz ⟨w.heap.size + 1, 0, none⟩ _ k (fun e => h2 e)).trans (hb3 k h1 h2), by simpa using hsz3, hos3, h13.other (by omega) _, _, h23.set _⟩, fun j v h => ⟨h.1, h.2.1, fun _ => h23.set _⟩⟩
          | k + 4, hi => exact absurd hi (by simp)
        case hfin3 =>
          intro listed ac wz hall hI3
          obtain ⟨hb3, hsz3, hos3, h13, u3, h23⟩ := hI3.held
          obtain ⟨v3, hv3⟩ := hI3.seen 3 _ rfl (hall 3 (by decide))
          have HZ3 := hide (And.intro hb3 (And.intro hsz3 (And.intro hos3 (And.intro h13 (hv3.2.2 rfl)))))
          clear hI3 hall hb3 hsz3 hos3 h13 h23 hv3
          gi_wp2
          rw [hsz]
          have h := Ixd.mk2 (x := x.val) (by omega) HI.out HB4.out T6.out HF6.out HEnt.out HZ3.out.1 HZ3.out.2.1 HZ3.out.2.2.1 HZ3.out.2.2.2.1 HZ3.out.2.2.2.2
          exact ⟨h.1, rfl, by rw [HRev.out]; exact h.2⟩
      | true =>
        rw [hok] at hf6 C6
        rcases hf6 with ⟨_, rfl⟩ | ⟨hf6, _⟩
        case inr => cases hf6
        rw [Bool.and_eq_true, Bool.not_eq_true'] at hok
        obtain ⟨hk, hhf⟩ := hok
        have hE := HSE.out hk
        have HEnt := hide (show ∃ es, entR zs (pre.map Fin.val ++ [x.val]).reverse = some es from by
          rw [List.reverse_append]
          show ∃ es, entR zs (x.val :: (pre.map Fin.val).reverse) = some es
          have h1 := entR_step H hes hk
          rw [← hE, ← HHas.out, hhf] at h1
          exact Option.isSome_iff_exists.1 h1)
        have HKk := hide (And.intro hk hE)
        have c6' : w6.cell? ⟨w.heap.size + 1 + 1, 1, none⟩ = some .nilIface := c6
        have cB6 : w6.cell? ⟨w1.heap.size + 1 + 1, 0, none⟩ = some (.pointer (some ⟨w1.heap.size + 1, 0, none⟩)) := bd6.cell
        have hplen : (pre.map Fin.val).length ≤ 8192 := by
          have h32 : pcs zs.length 32 ≤ 8192 := by unfold pcs; omega
          rw [List.length_map]; omega
        clear hk hE hhf bd6 c6
        gi_wp2_with (first | (refine wpListIn_load_mid rfl 61 _ rfl w3.heap.size 0 rfl (entC nm ino kd).toList _ (ent_range E6.out) Tryz.underlying61 rfl infoD3 ?_) | (refine ⟨trivial, ?_⟩; gi_at_call 89; fail))
        refine ⟨trivial, ?_⟩
        refine (CallsIn.inRound l (callsIn_wide.2 (dappend_any (H := H) (w1.heap.size + 5) _ (w1.heap.size + 1) w1.heap.size (pre.map Fin.val).length nn dv _ _ nm ino kd D6.out (by omega) hplen (by unfold maxLen; omega) hnm))).mono ?_
        rintro e w7 ⟨rfl, v', hz7, hn7, hf7⟩
        have H7 := hide (And.intro hz7 (And.intro hn7 hf7))
        clear hz7 hn7 hf7
        gi_wp2
        rw [hsz]
        have hzE : entEq nm ino kd ⟨#[]⟩ 0 0 = sZero (slotK zs x.val) := by
          have h := zE_slot HKk.out.1
          rw [← HKk.out.2] at h
          exact h
        show KeepsFrom (w1.heap.size + 5) W w7 ∧ Kc w.heap.size (w1.heap.size + 3) (w1.heap.size + 4) W w7 ∧ Iod H zs w w1.heap.size _ ((pre ++ [x]).map Fin.val) w7
        rw [HRev.out]
        cases hz : sZero (slotK zs x.val) with
        | true =>
          rw [hz] at hzE
          refine Iod.next (nn' := nn) (by omega) HI.out HDr.out HB4.out C6.out T6.out ?_ (by simp at hnn ⊢; omega) H7.out.2.2 HEnt.out
          have h7 := H7.out.1 hzE
          rw [show (pre.map Fin.val ++ [x.val]).reverse = x.val :: (pre.map Fin.val).reverse from by simp, mapR, if_pos hz, List.map_append, entsI_append, show (pre.map Fin.val ++ [x.val]).length = (pre.map Fin.val).length + 1 from by simp, show [x.val].map (slotE zs) = [(⟨#[]⟩, 0, 0)] from by simp [slotE, hz]]
          exact h7
        | false =>
          rw [hz] at hzE
          refine Iod.next (nn' := nn + 1) (by omega) HI.out HDr.out HB4.out C6.out T6.out ?_ (by simp at hnn ⊢; omega) H7.out.2.2 HEnt.out
          have h7 := H7.out.2.1 hzE
          have hnm2 : nm = sName (slotK zs x.val) := by have h := congrArg Prod.fst HKk.out.2; rw [slotE, if_neg (by rw [hz]; decide)] at h; exact h
          rw [show (pre.map Fin.val ++ [x.val]).reverse = x.val :: (pre.map Fin.val).reverse from by simp, mapR, if_neg (by rw [hz]; decide), List.map_append, show (pre.map Fin.val ++ [x.val]).length = (pre.map Fin.val).length + 1 from by simp, show [x.val].map (slotE zs) = [(nm, ino, kd)] from by rw [HKk.out.2]; rfl, ← hnm2, ← putE_snoc, List.length_reverse]
          rw [show ((pre.map Fin.val).map (slotE zs)).length = (pre.map Fin.val).length from by simp]
          exact h7
  case done =>
    rintro D ys W hD hys hI hK
    rw [hsz] at hD
    have hN : pcs zs.length 32 = zs.length / 32 := by unfold pcs; omega
    have hys := hys.trans (congrArg List.range hN)
    have hI' : Iod H zs w w1.heap.size (.slice a zs.length cap) (List.range (zs.length / 32)) W := by
      have h := hI
      simp only [hys] at h
      exact h
    clear hI hys
    obtain ⟨dv, nn, hdr, hnn⟩ := hI'.dir
    have hSl : (List.range (zs.length / 32)).map (slotE zs) = slotsL zs (zs.length / 32) := rfl
    rw [hSl, List.length_range] at hdr
    rw [List.length_range] at hnn
    have HNn := hide hnn
    obtain ⟨es, hes⟩ := hI'.ent
    rw [entR_range] at hes
    have HOkE := hide (show dirOk zs = !(decide (16 ≤ zs.length / 32) && ((slotsL zs (zs.length / 32)).drop (zs.length / 32 - 16)).all zE) from by rw [dirOk_eq h512 hl, hes]; rfl)
    obtain ⟨eb, heb⟩ : ∃ eb, eb = (decide (16 ≤ zs.length / 32) && ((slotsL zs (zs.length / 32)).drop (zs.length / 32 - 16)).all zE) := ⟨_, rfl⟩
    rw [← heb] at HOkE
    have HEnd := hide (show Calls Tryz.prog 90 #[.pointer (some ⟨w1.heap.size + 1, 0, none⟩)] W fun e w' => e = .returned (.bool eb) ∧ w' = W from by
      by_cases h16 : 16 ≤ zs.length / 32
      · have hL : (slotsL zs (zs.length / 32)).length = zs.length / 32 := slotsL_len _ _
        have h := endsEmpty_big (H := H) (w1.heap.size + 5) W (w1.heap.size + 1) w1.heap.size nn dv (slotsL zs (zs.length / 32)) _ (by rw [hL]; exact hdr) (by rw [hL]; omega) (by rw [hL]; exact h16)
        rw [hL] at h
        rw [heb, decide_eq_true h16, Bool.true_and]
        exact h
      · have h := endsEmpty_small (H := H) (w1.heap.size + 5) W (w1.heap.size + 1) w1.heap.size nn (zs.length / 32) dv _ _ hdr (by omega)
        rw [heb, decide_eq_false h16, Bool.false_and]
        exact h)
    have HI := hide hI'
    have HDr := hide hdr
    have HK := hide hK
    have hsW := hI'.size
    have hsO := hI'.old.size
    have cD : W.cell? ⟨w1.heap.size + 1 + 1, 0, none⟩ = some (.pointer (some ⟨w1.heap.size + 1, 0, none⟩)) := hI'.bd.cell
    clear hI' hdr hes heb hK
    gi_wp2_with (refine ⟨trivial, ?_⟩; gi_at_call 90; fail)
    refine ⟨trivial, ?_⟩
    refine (callsIn_wide.2 HEnd.out).mono ?_
    rintro e w' ⟨rfl, hw'⟩
    rw [hw']
    clear hw' w' HEnd
    gi_wp2_with (refine ⟨trivial, ?_⟩; gi_at_call 86; fail)
    refine ⟨trivial, ?_⟩
    refine (callsIn_wide.2 (need_any (w.heap.size + 2) (w1.heap.size + 5) _ 21 true (!eb) _ HI.out.ck (by omega) (by omega))).mono ?_
    rintro e w8 ⟨rfl, hc8, ht8⟩
    rw [Bool.true_and, ← HOkE.out] at hc8
    have hs8 := ht8.1.size
    have hown : ∀ k, k < w1.heap.size + 5 → dv.ownBlock ≠ some k := fun k hk e => by have := (HDr.out.own.lt k e).1; omega
    have D8 := hide (HDr.out.keepG ht8.1 (by simp; omega) (by simp; omega) (.inr (hown _ (by omega))))
    have r18 : Boxed w8 w.heap.size 79 (.pointer none) := (ht8.1.block _ (by omega) (by simp <;> omega)).trans HI.out.r1
    have r28 : Boxed w8 (w.heap.size + 1) 72 .nilIface := (ht8.1.block _ (by omega) (by simp <;> omega)).trans HI.out.r2
    have bd8 : Boxed w8 (w1.heap.size + 2) 79 (.pointer (some ⟨w1.heap.size + 1, 0, none⟩)) := (ht8.1.block _ (by omega) (by simp; omega)).trans HI.out.bd
    have hD8 : w8.heap[D]? = some (.deferred (some [])) := (ht8.1.block D (Array.getElem?_eq_some_iff.1 HK.out).1 (by simp; omega)).trans HK.out
    have old8 : Below w.heap.size w w8 := HI.out.old.grown ht8.1 (by omega) (fun k e => by cases e; omega)
    obtain ⟨ev, c8, hf8⟩ := hc8.fault
    have c8' : w8.cell? ⟨w.heap.size + 1 + 1, 1, none⟩ = some ev := c8
    have Hsh := hide (show ev = .nilIface ∨ ∃ t x, ev = .iface t (.pointer (some x)) from by
      rcases hf8 with ⟨_, h⟩ | ⟨_, m, h⟩
      · exact .inl h
      · obtain ⟨t, x, h⟩ := h.iface
        exact .inr ⟨t, x, h⟩)
    have H8 := hide (And.intro r18 (And.intro r28 (And.intro hD8 (And.intro old8 hf8))))
    have cD8 : w8.cell? ⟨w1.heap.size + 1 + 1, 0, none⟩ = some (.pointer (some ⟨w1.heap.size + 1, 0, none⟩)) := bd8.cell
    clear hc8 ht8 r18 r28 bd8 hD8 old8 hf8 c8 cD
    gi_wp2
    refine wpIn_region_any (by kernel_rfl) ?_
    change wpAnyIn _ _ _ _ _ _ _ _ _ (World.drew w8)
    refine wpAnyIn_invB [(2, .pointer (some ⟨w.heap.size, 0, none⟩)), (3, .pointer (some ⟨w.heap.size + 1, 0, none⟩)), (4, .pointer (some ⟨w.heap.size + 1 + 1, 0, none⟩)), (5, .pointer (some ⟨w1.heap.size + 1 + 1, 0, none⟩))] (fun w' => (∀ k, k ≠ w.heap.size → k ≠ w.heap.size + 1 → w'.heap[k]? = w8.heap[k]?) ∧ w'.heap.size = w8.heap.size ∧ (w'.os = w8.os ∧ w'.tape = w8.tape ∧ w'.output = w8.output) ∧ (∃ u, Boxed w' w.heap.size 79 u) ∧ ∃ u, Boxed w' (w.heap.size + 1) 72 u)
      (fun i v w' => (i = 0 → v = .pointer (some ⟨w1.heap.size + 1, 0, none⟩)) ∧ (i = 1 → v = .pointer (some ⟨w.heap.size + 1 + 1, 1, none⟩)) ∧ (i = 2 → v = ev) ∧ (i = 3 → Boxed w' w.heap.size 79 (.pointer (some ⟨w1.heap.size + 1, 0, none⟩))) ∧ (i = 4 → Boxed w' (w.heap.size + 1) 72 ev)) 71 [{ target := .collected D, args := #[] }] (by kernel_rfl) ?hstepD ?hfinD _ _ rfl rfl ⟨fun _ _ _ => rfl, rfl, ⟨rfl, rfl, rfl⟩, ⟨_, H8.out.1⟩, _, H8.out.2.1⟩ (by
      intro t v h
      simp only [List.mem_cons, List.not_mem_nil, or_false, Prod.mk.injEq] at h
      rcases h with ⟨rfl, rfl⟩ | ⟨rfl, rfl⟩ | ⟨rfl, rfl⟩ | ⟨rfl, rfl⟩ <;> rfl)
    case hstepD =>
      intro i o listed ac wz hi hall hI3
      obtain ⟨hb3, hsz3, hos3, ⟨u1, h13⟩, u3, h23⟩ := hI3.held
      have f2 : ac.tmps.getD 2 undef = .pointer (some ⟨w.heap.size, 0, none⟩) := hI3.fix 2 _ (by simp)
      have f3 : ac.tmps.getD 3 undef = .pointer (some ⟨w.heap.size + 1, 0, none⟩) := hI3.fix 3 _ (by simp)
      have f4 : ac.tmps.getD 4 undef = .pointer (some ⟨w.heap.size + 1 + 1, 0, none⟩) := hI3.fix 4 _ (by simp)
      have f5 : ac.tmps.getD 5 undef = .pointer (some ⟨w1.heap.size + 1 + 1, 0, none⟩) := hI3.fix 5 _ (by simp)
      have HI3 := hide hI3
      match i, hi with
      | 0, hi =>
        obtain rfl := Option.some.inj hi
        have hc3 : wz.cell? ⟨w1.heap.size + 1 + 1, 0, none⟩ = some (.pointer (some ⟨w1.heap.size + 1, 0, none⟩)) := (World.cell?_of_block (a := ⟨w1.heap.size + 1 + 1, 0, none⟩) (hb3 _ (by simp; omega) (by simp; omega))).trans cD8
        exact ⟨by rfl, (fun c => by intro h; cases h), (fun c => by intro h; cases h), .value (.pointer (some ⟨w1.heap.size + 1, 0, none⟩)), _, wz, by go_simp, .inl rfl, ⟨fun _ => rfl, fun h => (by cases h), fun h => (by cases h), fun h => (by cases h), fun h => (by cases h)⟩, HI3.out.held, fun _ _ h => h⟩
      | 1, hi =>
        obtain rfl := Option.some.inj hi
        exact ⟨by rfl, (fun c => by intro h; cases h), (fun c => by intro h; cases h), .value (.pointer (some ⟨w.heap.size + 1 + 1, 1, none⟩)), _, wz, by go_simp, .inl rfl, ⟨fun h => (by cases h), fun _ => rfl, fun h => (by cases h), fun h => (by cases h), fun h => (by cases h)⟩, HI3.out.held, fun _ _ h => h⟩
      | 2, hi =>
        obtain rfl := Option.some.inj hi
        have v1 : ac.tmps.getD 69 undef = .pointer (some ⟨w.heap.size + 1 + 1, 1, none⟩) := (HI3.out.at hall 1 69 rfl rfl (by rfl)).2.1 rfl
        have hc3 : wz.cell? ⟨w.heap.size + 1 + 1, 1, none⟩ = some ev := (World.cell?_of_block (a := ⟨w.heap.size + 1 + 1, 1, none⟩) (hb3 _ (by simp; omega) (by simp))).trans c8'
        exact ⟨by rfl, (fun c => by intro h; cases h), (fun c => by intro h; cases h), .value ev, _, wz, by go_simp, .inl rfl, ⟨fun h => (by cases h), fun h => (by cases h), fun _ => rfl, fun h => (by cases h), fun h => (by cases h)⟩, HI3.out.held, fun _ _ h => h⟩
      | 3, hi =>
        obtain rfl := Option.some.inj hi
        have v0 : ac.tmps.getD 68 undef = .pointer (some ⟨w1.heap.size + 1, 0, none⟩) := (HI3.out.at hall 0 68 rfl rfl (by rfl)).1 rfl
        have hc3 := h13.cell
        have hf3 := h13.frozen
        refine ⟨by rfl, (fun c => by intro h; cases h), (fun c => by intro h; cases h), .skip, undef, wz.setCell ⟨w.heap.size, 0, none⟩ (.pointer (some ⟨w1.heap.size + 1, 0, none⟩)), by go_simp, .inr ⟨rfl, rfl⟩, ⟨fun h => (by cases h), fun h => (by cases h), fun h => (by cases h), fun _ => h13.set _, fun h => (by cases h)⟩, ⟨fun k h1 h2 => (Below.heap_setCell wz ⟨w.heap.size, 0, none⟩ _ k (fun e => h1 e)).trans (hb3 k h1 h2), by simpa using hsz3, hos3, ⟨_, h13.set _⟩, u3, h23.other (by omega) _⟩, fun j v h => ⟨h.1, h.2.1, h.2.2.1, fun _ => h13.set _, fun hj => (h.2.2.2.2 hj).other (by omega) _⟩⟩
      | 4, hi =>
        obtain rfl := Option.some.inj hi
        have v2 : ac.tmps.getD 70 undef = ev := (HI3.out.at hall 2 70 rfl rfl (by rfl)).2.2.1 rfl
        have hc3 := h23.cell
        have hf3 := h23.frozen
        refine ⟨by rfl, (fun c => by intro h; cases h), (fun c => by intro h; cases h), .skip, undef, wz.setCell ⟨w.heap.size + 1, 0, none⟩ ev, (by rcases Hsh.out with h | ⟨t', x', h⟩ <;> (rw [h] at v2 ⊢; go_simp)), .inr ⟨rfl, rfl⟩, ⟨fun h => (by cases h), fun h => (by cases h), fun h => (by cases h), fun h => (by cases h), fun _ => h23.set _⟩, ⟨fun k h1 h2 => (Below.heap_setCell wz ⟨w.heap.size + 1, 0, none⟩ _ k (fun e => h2 e)).trans (hb3 k h1 h2), by simpa using hsz3, hos3, ⟨_, h13.other (by omega) _⟩, _, h23.set _⟩, fun j v h => ⟨h.1, h.2.1, h.2.2.1, fun hj => (h.2.2.2.1 hj).other (by omega) _, fun _ => h23.set _⟩⟩
      | k + 5, hi => exact absurd hi (by simp)
    case hfinD =>
      intro listed ac wz hall hI3
      obtain ⟨hb3, hsz3, hos3, _, _⟩ := hI3.held
      obtain ⟨q3, hv3⟩ := hI3.seen 3 _ rfl (hall 3 (by decide))
      obtain ⟨q4, hv4⟩ := hI3.seen 4 _ rfl (hall 4 (by decide))
      have f2 := hI3.fix 2 (.pointer (some ⟨w.heap.size, 0, none⟩)) (by simp)
      have f3 := hI3.fix 3 (.pointer (some ⟨w.heap.size + 1, 0, none⟩)) (by simp)
      have hdf := hI3.df
      have hr1 := hv3.2.2.2.1 rfl
      have hr2 := hv4.2.2.2.2 rfl
      have HZ := hide (And.intro hb3 (And.intro hsz3 (And.intro hos3 (And.intro hr1 (And.intro hr2 (And.intro f2 f3))))))
      clear hI3 hall hb3 hsz3 hos3 hv3 hv4 hr1 hr2
      obtain ⟨tm, df⟩ := ac
      simp only at hdf
      subst hdf
      gi_wp2
      have hDne : ∀ k, k < w1.heap.size + 5 → k ≠ D := fun k hk e => by omega
      have hDz : wz.heap[D]? = some (.deferred (some [])) := (HZ.out.1 D (by omega) (by omega)).trans H8.out.2.2.1
      have hput : ∀ k, k ≠ D → (wz.putObj D (.deferred none)).heap[k]? = wz.heap[k]? := fun k hk => World.putObj_heap_other hk
      have hBz : Below w.heap.size w wz := ⟨HZ.out.2.2.1.1.trans H8.out.2.2.2.1.os, HZ.out.2.2.1.2.1.trans H8.out.2.2.2.1.tape, HZ.out.2.2.1.2.2.trans H8.out.2.2.2.1.output, by rw [HZ.out.2.1]; exact H8.out.2.2.2.1.size, fun k hk => (HZ.out.1 k (by omega) (by omega)).trans (H8.out.2.2.2.1.block k hk)⟩
      refine ⟨by simp, .inl ⟨_, _, rfl, run_takeDeferred hDz, ?_⟩⟩
      refine ⟨_, results_box2 rfl _ _ w.heap.size (w.heap.size + 1) (.pointer (some ⟨w1.heap.size + 1, 0, none⟩)) ev HZ.out.2.2.2.2.2.1 HZ.out.2.2.2.2.2.2 ((hput _ (hDne _ (by omega))).trans HZ.out.2.2.2.1) ((hput _ (hDne _ (by omega))).trans HZ.out.2.2.2.2.1), _, ev, rfl, ?_, ?_, fun _ => ?_⟩
      · have hz : FaultIs wz (w1.heap.size + 5) (dirOk zs) ev 21 := H8.out.2.2.2.2.keepC (fun k o v hk hc => (World.cell?_of_block (a := ⟨k, o, none⟩) (HZ.out.1 k (by omega) (by omega))).trans hc)
        exact (hz.putO hDz rfl).mono (by omega)
      · exact hBz.trans (belowK_b (w := w) (Nat.le_refl _) wz D _ (.deferred none) (by omega) hDz rfl rfl)
      · refine ⟨w1.heap.size + 1, rfl, by omega, w1.heap.size, by omega, nn, HNn.out, dv, ?_⟩
        refine D8.out.keepE (by omega) ((hput _ (hDne _ (by omega))).trans (HZ.out.1 _ (by omega) (by omega))) ((hput _ (hDne _ (by omega))).trans (HZ.out.1 _ (by omega) (by omega))) (fun g C t f hg hgg => ?_)
        refine (hput g (fun e => ?_)).trans (HZ.out.1 _ (by omega) (by omega))
        rw [e, H8.out.2.2.1] at hgg
        cases hgg
  case stop =>
    rintro D cd pre W hD hSp ⟨rfl, hx⟩ hK
    rw [hsz] at hD
    have hN : pcs zs.length 32 = zs.length / 32 := by unfold pcs; omega
    have HOk := hide (show dirOk zs = false from by
      have h1 : pre.map Fin.val = List.range (pre.map Fin.val).length := by
        have h := List.prefix_iff_eq_take.1 hSp
        rw [List.take_range] at h
        have hle := hSp.length_le
        rw [List.length_range] at hle
        rw [Nat.min_eq_left hle] at h
        exact h
      have h2 := hx.ent
      rw [h1, entR_range] at h2
      have hle := hSp.length_le
      rw [List.length_range] at hle
      rw [dirOk_eq h512 hl, entT_none (Nat.le_trans hle (Nat.le_of_eq hN)) h2]
      rfl)
    obtain ⟨ev, m, hr2, hF⟩ := hx.r2
    have hr1 := hx.r1
    have hold := hx.old
    have hsO := hold.size
    have HX := hide (And.intro hr1 (And.intro hr2 (And.intro hF (And.intro hold hK))))
    clear hx hr1 hr2 hF hold hSp
    gi_wp2
    have hput : ∀ k, k ≠ D → (W.putObj D (.deferred none)).heap[k]? = W.heap[k]? := fun k hk => World.putObj_heap_other hk
    refine ⟨by simp, .inl ⟨_, _, rfl, run_takeDeferred HX.out.2.2.2.2, ?_⟩⟩
    refine ⟨_, results_box2 rfl _ _ w.heap.size (w.heap.size + 1) (.pointer none) ev rfl rfl ((hput _ (by omega)).trans HX.out.1) ((hput _ (by omega)).trans HX.out.2.1), _, ev, rfl, ?_, ?_, fun h => ?_⟩
    · rw [HOk.out]
      have hz : FaultIs W (w1.heap.size + 5) false ev 21 := .inr ⟨rfl, m, HX.out.2.2.1⟩
      exact (hz.putO HX.out.2.2.2.2 rfl).mono (by omega)
    · exact HX.out.2.2.2.1.trans (belowK_b (w := w) (Nat.le_refl _) W D _ (.deferred none) (by omega) HX.out.2.2.2.2 rfl rfl)
    · rw [HOk.out] at h
      cases h
end Go.Proofs.YtplieplmhdfndaaGreatDoor
