/- The iterator over a directory's entries: its contract. An opened state; mayName and linksOf. A region that draws its order, inside a fence or a round: what only reads comes first, in whatever order; then number mm. -/
import Derived.RangeFuncNested
import Derived.RangeFuncBound
import Derived.RangeFuncCalls
import Derived.RangeFuncLeaves
import Derived.RangeFuncWrites
import Derived.Shelf.Abstract
import Derived.Shelf.RegionOpen
import Derived.WalkKit
import Derived.OwnWalkIn
import Derived.TacticsInMore
import Derived.LoopNIn
import Derived.LoopIn
import Derived.Maps.AppendAt
import Derived.Sort.CutIn
import Derived.Test.YtplieplmhdfndaaGreatDoorZw36
import Derived.Test.YtplieplmhdfndaaGreatDoorZw33
import Derived.Test.YtplieplmhdfndaaGreatDoorZw49
namespace Go.Proofs.YtplieplmhdfndaaGreatDoor
set_option linter.unusedVariables false
set_option linter.unusedSimpArgs false
open Go.RowKit Go.Shelf
attribute [local go_sem] Oper.semAt_some

theorem wpListIn_neqE {F : Fence} {n : Nat} {P : Program} {ops : Array Oper} {rest : List Oper} {o : Oper} {a : Act} {w : World} {Q : Exit → Act → World → Prop} (hgd : o.guard = none) (t u : TypeId) (x y : Operand) (ho : o.op = .binOp .neq t x y u)
    (cs ds : Array Value) (hx : a.eval x = .agg cs) (hy : a.eval y = .agg ds) (hm : P.eqGuardType P.depth t = false) (b : Bool) (hE : (Op.equalIn 10000 t (.agg cs) (.agg ds)).run P w = .ok b w)
    (h : wpListIn F n P ops Q rest (a.put o.dst (.bool (!b))) w) : wpListIn F n P ops Q (o :: rest) a w := by
  refine wpListIn_run hgd (by rw [ho]; intro c hc; cases hc) (by rw [ho]; intro c hc; cases hc) _ _ ?_ h
  simp [execOp, ho, hx, hy, run_eqGuard_agg w _ _ _ _ _ _ hm, run_neq_struct, hE, Result.andThen]
/-- What a round that goes on keeps: whatever lies below n₀, and block X. -/
def Kd (n₀ X : Nat) (W W' : World) : Prop := Below n₀ W W' ∧ W'.heap[X]? = W.heap[X]?
theorem Kd.trans {n₀ X : Nat} {A B C : World} (h : Kd n₀ X A B) (k : Kd n₀ X B C) : Kd n₀ X A C := ⟨h.1.trans k.1, k.2.trans h.2⟩
/-- An entry of a list. -/
abbrev EsX (es : List (ByteArray × Nat × Nat)) := { e : ByteArray × Nat × Nat // e ∈ es }
def entV (e : ByteArray × Nat × Nat) : Value := .agg #[.string e.1, .int .i64 (e.2.1 : Int), .int .i64 (e.2.2 : Int)]
/-- The slots lie in a row at g. -/
def SlR (W : World) (g N : Nat) (zs : List Int) : Prop := ∀ k, k < N → W.rangeAt g (k * 3) (entC (slotE zs k).1 (slotE zs k).2.1 (slotE zs k).2.2).toList
theorem SlR.low {W W' : World} {g N n₀ : Nat} {zs : List Int} (h : SlR W g N zs) (hg : g < n₀) (hb : Below n₀ W W') : SlR W' g N zs := fun k hk j u hu => (hb.cell (p := ⟨g, k * 3 + j, none⟩) hg).trans (h k hk j u hu)
theorem SlR.up {W W' : World} {g N : Nat} {zs : List Int} (h : SlR W g N zs) (hb : Below W.heap.size W W') : SlR W' g N zs := fun k hk j u hu => (hb.cell (cell_lt (h k hk j u hu))).trans (h k hk j u hu)
theorem DirR.read {W : World} {d : Nat} {zs : List Int} (h : DirR W d zs) : d < W.heap.size ∧ ∃ a cap, W.cell? ⟨d, 0, none⟩ = some (.slice a (zs.length / 32) cap) ∧ (0 < zs.length / 32 → ∃ g, a = some ⟨g, 0, none⟩ ∧ g < W.heap.size ∧ SlR W g (zs.length / 32) zs) ∧ zs.length / 32 ≤ cap ∧ cap ≤ maxLen := by
  obtain ⟨base, mb, nn, v, hdr, _, hok⟩ := h
  refine ⟨hdr.blk.lt, ?_⟩
  obtain ⟨a, cap, rfl⟩ := ownD_shape hdr.own
  refine ⟨a, cap, (hdr.blk.cell 0).trans rfl, fun h0 => ?_, ?_⟩
  · obtain ⟨g, cp, e, hg1, hg2, hgc⟩ := own_sliceD hdr.own (by omega)
    injection e with e1 e2 e3
    refine ⟨g, e1, (hdr.own.lt g (by rw [e1]; rfl)).2, fun k hk j u hu => ?_⟩
    have hL : (slotsL zs (zs.length / 32))[k]? = some (slotE zs k) := by simp [slotsL, hk]
    have h1 := hgc (k * 3 + j) u (entsI_at hL j u hu)
    rwa [Addr.add_mid, Nat.zero_add] at h1
  · rcases hdr.own.2 with ⟨e4, h4⟩ | ⟨g', cp', cur, e4, _, _, hn1, hn2, _⟩
    · injection e4 with _ h5 h6
      rw [h5, h6]
      exact ⟨Nat.le_refl _, by unfold maxLen; omega⟩
    · injection e4 with e5 e6 e7
      subst e7
      exact ⟨hn1, hn2⟩
theorem entT_pre {zs : List Int} {m : Nat} {es : List (ByteArray × Nat × Nat)} (h : entT zs m = some es) : ∀ {k : Nat}, k ≤ m → ∃ fs, entT zs k = some fs ∧ fs <+: es := by
  intro k hk
  obtain ⟨d, rfl⟩ : ∃ d, m = k + d := ⟨m - k, by omega⟩
  clear hk
  induction d generalizing es with
  | zero => exact ⟨es, h, List.prefix_refl _⟩
  | succ d ih =>
    obtain ⟨gs, h1, h2⟩ := entT_some h
    obtain ⟨fs, h3, h4⟩ := ih h1
    refine ⟨fs, h3, ?_⟩
    rcases h2 with ⟨_, rfl⟩ | ⟨_, _, _, rfl⟩
    · exact h4
    · exact h4.trans (List.prefix_append _ _)
/-- The entries that slots 0 to k - 1 tell, with their proofs. -/
theorem upto_ex {zs : List Int} {m k : Nat} {es : List (ByteArray × Nat × Nat)} (h : entT zs m = some es) (hk : k ≤ m) : ∃ pre : List (EsX es), some (pre.map Subtype.val) = entT zs k := by
  obtain ⟨fs, h1, h2⟩ := entT_pre h hk
  refine ⟨fs.attach.map (fun x => ⟨x.1, h2.subset x.2⟩), ?_⟩
  rw [h1, List.map_map]
  congr 1
  exact List.attach_map_subtype_val fs
set_option maxRecDepth 100000 in
set_option maxHeartbeats 2000000 in
theorem all1_in (n : Nat) (hn : 1 ≤ n) (l X n₀ d cap : Nat) (a : Option Addr) (zs : List Int) (es : List (ByteArray × Nat × Nat)) (N : Nat) (hN : N ≤ 8192) (hes : entT zs N = some es) (hd : d < n₀) (J Jx : List (EsX es) → World → Prop)
    (hJA : ∀ s A o, J s A → J s (World.alloc A o))
    (hY : ∀ pre x W, J pre W → pre.length < es.length → YieldAt Fence.wide (n - 1) Tryz.prog l #[entV x.1] W fun e W' =>
      (e = .returned (.bool true) ∧ J (pre ++ [x]) W' ∧ Kd n₀ X W W') ∨ (e = .returned (.bool false) ∧ Jx (pre ++ [x]) W'))
    (W : World) (hn0 : n₀ ≤ W.heap.size) (hX : Boxed W X 79 (.pointer (some ⟨d, 0, none⟩))) (hc0 : W.cell? ⟨d, 0, none⟩ = some (.slice a N cap)) (hrow : 0 < N → ∃ g, a = some ⟨g, 0, none⟩ ∧ g < n₀ ∧ SlR W g N zs) (h0 : J [] W) :
    CallsIn Fence.wide n Tryz.prog 146 #[.func (.yield l) #[] #[], .pointer (some ⟨X, 0, none⟩)] W fun e W' => (∃ v, e = .returned v) ∧
      ((∃ ys : List (EsX es), ys.map Subtype.val = es ∧ J ys W') ∨ (∃ pre : List (EsX es), pre.map Subtype.val <+: es ∧ Jx pre W')) := by
  have c1 := hX.cell
  have HY := hide hY
  have HJA := hide hJA
  have HES := hide hes
  have HS := hide (And.intro hrow h0)
  clear hX hY hes hrow h0 hJA
  refine callsIn_of_wp Tryz.func146 rfl trivial ?_ rfl
  simp only [Tryz.ntmps146, List.size_toArray, List.length_cons, List.length_nil, Nat.reduceAdd, Nat.reduceSub, Array.replicate_succ, Array.replicate_zero, List.push_toArray, List.append_toArray, List.nil_append, List.cons_append]
  gi_wp2
  clear c1 hc0
  gi_loopw [10] (fun iv wr => ∃ k : Nat, k ≤ N ∧ iv = .int .i64 (k : Int) ∧ Hid (n₀ ≤ wr.heap.size) ∧ Hid (0 < N → ∃ g, a = some ⟨g, 0, none⟩ ∧ g < n₀ ∧ SlR wr g N zs) ∧ Hid (∃ pre : List (EsX es), some (pre.map Subtype.val) = entT zs k ∧ J pre wr)) (fun iv _ => N - (intOf iv).toNat)
  case atStart => exact ⟨0, Nat.zero_le _, rfl, hn0, HS.out.1, [], rfl, HS.out.2⟩
  case round =>
    obtain ⟨k, hk, rfl, HSZ, HR, HP⟩ := hrel
    by_cases hlt : k < N
    · obtain ⟨g, rfl, hg, hs⟩ := HR.out (by omega)
      obtain ⟨pre, hpre, hJ⟩ := HP.out
      obtain ⟨nm, ino, kd, hse⟩ : ∃ nm ino kd, slotE zs k = (nm, ino, kd) := ⟨_, _, _, rfl⟩
      have hrg := hs k hlt
      rw [hse] at hrg
      have HRG := hide (show wr.rangeAt g (k * 3) [.string nm, .int .i64 ino, .int .i64 kd] from hrg)
      have HSE := hide hse
      have HPR := hide hpre
      have HSL := hide hs
      obtain ⟨Wa, hWa⟩ : ∃ Wa, Wa = wr.alloc (.cells #[.string nm, .int .i64 ino, .int .i64 kd] 61) := ⟨_, rfl⟩
      have ba : Below wr.heap.size wr Wa := by rw [hWa]; exact (Below.refl _ _).alloc (Nat.le_refl _) _
      have KA := hide (show Blk Wa wr.heap.size #[.string nm, .int .i64 ino, .int .i64 kd] 61 from by rw [hWa]; exact Blk.new wr _ _)
      have HBA := hide ba
      have HJA0 := hide (show J pre Wa from by rw [hWa]; exact HJA.out _ _ _ hJ)
      have HWA := hide hWa
      obtain ⟨dq, hdq⟩ : ∃ dq, dq = wr.heap.size := ⟨_, rfl⟩
      rw [← hdq] at KA
      have HDQ := hide hdq
      have q0 := (KA.out.cell 0).trans (show _ = some (.string nm) from rfl)
      have q1 := (KA.out.cell 1).trans (show _ = some (.int .i64 ino) from rfl)
      have q2 := (KA.out.cell 2).trans (show _ = some (.int .i64 kd) from rfl)
      have HSL2 := hide (show n₀ ≤ Wa.heap.size ∧ SlR Wa g N zs from ⟨Nat.le_trans HSZ.out ba.size, hs.up ba⟩)
      clear hs hpre hJ hse hWa ba hdq HR HP hrg
      have HE := hide (fun w => eqEnt w 9998 nm ino kd ⟨#[]⟩ 0 0)
      gi_upto_region 3 with (refine wpListIn_load_mid rfl 61 _ rfl g (k * 3) rfl [.string nm, .int .i64 ino, .int .i64 kd] _ HRG.out Tryz.underlying61 rfl infoD3 ?_)
      rw [← HWA.out, ← HDQ.out]
      cases hz : sZero (slotK zs k) with
      | true =>
        have HEq := hide (show entEq nm ino kd ⟨#[]⟩ 0 0 = true from by
          have h1 := zE_slot (zs := zs) (k := k) (by rw [hz]; rfl)
          rw [HSE.out, hz] at h1
          exact h1)
        have HE2 := hide (fun w => (HE.out w).trans (by rw [HEq.out]))
        have HNext := hide (show some (pre.map Subtype.val) = entT zs (k + 1) from by rw [entT_zero HPR.out.symm hz])
        clear hz
        gi_wp2_with (refine wpListIn_neqE rfl 61 _ _ _ rfl #[.string nm, .int .i64 ino, .int .i64 kd] #[.string ⟨#[]⟩, .int .i64 0, .int .i64 0] rfl rfl guardEnt true (HE2.out _) ?_)
        refine ⟨fun _ h => (by cases h), ?_⟩
        gi_wp2
        go_roundw
        case rel => exact ⟨k + 1, by omega, by go_num, hide HSL2.out.1, hide (fun _ => ⟨g, rfl, hg, HSL2.out.2⟩), hide ⟨pre, HNext.out, HJA0.out⟩⟩
        case measure => simp [intOf]; omega
      | false =>
        obtain ⟨fs, hfs, hfp⟩ := entT_pre HES.out (k := k + 1) hlt
        obtain ⟨gs, hgs, hcase⟩ := entT_some hfs
        rw [← HPR.out] at hgs
        cases hgs
        rcases hcase with ⟨h1, _⟩ | ⟨_, hright, _, rfl⟩
        · rw [hz] at h1; cases h1
        have hsl : slotE zs k = (sName (slotK zs k), (sIno (slotK zs k) : Int), (sKind (slotK zs k) : Int)) := by unfold slotE; rw [if_neg (by rw [hz]; simp)]
        have HEq := hide (show entEq nm ino kd ⟨#[]⟩ 0 0 = false from by
          have h1 := zE_slot (zs := zs) (k := k) (by rw [hright]; simp)
          rw [HSE.out, hz] at h1
          exact h1)
        have HE2 := hide (fun w => (HE.out w).trans (by rw [HEq.out]))
        rw [HSE.out] at hsl
        injection hsl with e1 e2
        injection e2 with e2 e3
        obtain ⟨i2, hi2⟩ : ∃ i2, i2 = sIno (slotK zs k) := ⟨_, rfl⟩
        obtain ⟨k2, hk2⟩ : ∃ k2, k2 = sKind (slotK zs k) := ⟨_, rfl⟩
        rw [← e1, ← hi2, ← hk2] at hfs hfp
        rw [← hi2] at e2
        rw [← hk2] at e3
        subst e2 e3
        obtain ⟨x, hx⟩ : ∃ x : EsX es, x.1 = (nm, i2, k2) := ⟨⟨(nm, i2, k2), hfp.subset (by simp)⟩, rfl⟩
        have hlen : pre.length < es.length := by
          have := hfp.length_le
          simp at this
          omega
        have HMap := hide (show (pre ++ [x]).map Subtype.val = pre.map Subtype.val ++ [(nm, i2, k2)] from by simp [hx])
        have HNext := hide (show some ((pre ++ [x]).map Subtype.val) = entT zs (k + 1) from by rw [HMap.out]; exact hfs.symm)
        have HPre := hide (show (pre ++ [x]).map Subtype.val <+: es from by rw [HMap.out]; exact hfp)
        obtain ⟨fn, tmps, assign, body, hy, hR⟩ := HY.out pre x Wa HJA0.out hlen
        have hv : entV x.1 = .agg #[.string nm, .int .i64 (i2 : Int), .int .i64 (k2 : Int)] := by rw [hx]; rfl
        rw [hv] at hy
        have HR2 := hide hR
        clear hR hz e1 hi2 hk2 hfs hfp hright hx hv hlen
        gi_wp2_with (refine wpListIn_neqE rfl 61 _ _ _ rfl #[.string nm, .int .i64 (i2 : Int), .int .i64 (k2 : Int)] #[.string ⟨#[]⟩, .int .i64 0, .int .i64 0] rfl rfl guardEnt false (HE2.out _) ?_)
        refine HR2.out.mono ?_
        rintro e W3 (⟨rfl, hJ3, hk3⟩ | ⟨rfl, hJx3⟩)
        · have H3 := hide (And.intro hJ3 hk3)
          clear hJ3 hk3 q0 q1 q2 HR2
          gi_wp2
          go_roundw
          case rel => exact ⟨k + 1, by omega, by go_num, hide (Nat.le_trans HSL2.out.1 H3.out.2.1.size), hide (fun _ => ⟨g, rfl, hg, HSL2.out.2.low hg H3.out.2.1⟩), hide ⟨pre ++ [x], HNext.out, H3.out.1⟩⟩
          case measure => simp [intOf]; omega
        · have HX := hide hJx3
          clear hJx3
          gi_wp2
          refine bodyPost_ret (results_none rfl _ _ _) rfl ?_
          exact ⟨⟨_, rfl⟩, .inr ⟨pre ++ [x], HPre.out, HX.out⟩⟩
    · obtain ⟨pre, hpre, hJ⟩ := HP.out
      have hkN : k = N := by omega
      have HF := hide (show pre.map Subtype.val = es from by rw [hkN, HES.out] at hpre; exact Option.some.inj hpre)
      have HJ := hide hJ
      clear hpre hJ hkN
      gi_wp2
      go_end0
      exact ⟨⟨_, rfl⟩, .inl ⟨pre, HF.out, HJ.out⟩⟩
set_option maxHeartbeats 1000000 in
/-- all: the directory is boxed; the function value captures the box. -/
theorem all_in (n : Nat) (d : Nat) (w : World) :
    CallsIn Fence.wide n Tryz.prog 98 #[.pointer (some ⟨d, 0, none⟩)] w fun e w' => e = .returned (.func (.func 146) #[] #[.pointer (some ⟨w.heap.size, 0, none⟩)]) ∧ w' = w.alloc (.cells #[.pointer (some ⟨d, 0, none⟩)] 79) := by
  refine callsIn_of_wp Tryz.func98 rfl trivial ?_ rfl
  simp only [Tryz.ntmps98, List.size_toArray, List.length_cons, List.length_nil, Nat.reduceAdd, Nat.reduceSub, Array.replicate_succ, Array.replicate_zero, List.push_toArray, List.append_toArray, List.nil_append, List.cons_append]
  gi_wp2
  go_ret
  exact ⟨rfl, rfl⟩
/-- The entries of a directory that lies below n₀: all in their order, or a part of them from the first on. -/
theorem all_stops (n : Nat) (hn : 1 ≤ n) (X n₀ d : Nat) (zs : List Int) (es : List (ByteArray × Nat × Nat)) (w0 w : World) (hD : DirR w0 d zs) (h0 : n₀ = w0.heap.size) (hb : Below w0.heap.size w0 w) (hes : entT zs (zs.length / 32) = some es) (hX : Boxed w X 79 (.pointer (some ⟨d, 0, none⟩))) :
    SeqStopsK Fence.wide n Tryz.prog 146 #[.pointer (some ⟨X, 0, none⟩)] (fun x : EsX es => #[entV x.1]) (Kd n₀ X) (fun ys => ys.map Subtype.val = es) (fun pre => pre.map Subtype.val <+: es) es.length w := fun l J Jx W hW hJ _ hY hj0 => by
  have hok : dirOk zs = true := by obtain ⟨_, _, _, _, _, _, h⟩ := hD; exact h
  obtain ⟨hd, a, cap, hc, hr, _⟩ := hD.read
  have hB : Below w0.heap.size w0 W := hb.trans (hW.mono hb.size)
  have hl := dirOk_lenQ hok
  refine all1_in n hn l X n₀ d cap a zs es (zs.length / 32) (by omega) hes (by omega) J Jx (fun s A o h => ?_) hY W (by rw [h0]; exact hB.size) ((hW.block X hX.lt).trans hX) ((hB.cell (p := ⟨d, 0, none⟩) hd).trans hc) (fun hp => ?_) hj0
  · exact hJ s A (A.alloc o) none h ⟨rfl, rfl, rfl, by simp, fun k hk _ => Below.heap_alloc _ _ k hk⟩ (fun r e => by cases e)
  · obtain ⟨g, h1, h2, h3⟩ := hr hp
    exact ⟨g, h1, by omega, h3.low (by omega) hB⟩
theorem Kd_b {n₀ X : Nat} {w : World} (hn : n₀ ≤ w.heap.size) (hX : X < w.heap.size) (W : World) (l : Nat) (o o' : Obj) (hl : w.heap.size ≤ l) (h : W.heap[l]? = some o) (h1 : o.isCells = false) (h2 : o.isWalk = false) : Kd n₀ X W (W.putObj l o') :=
  ⟨belowK_b hn W l o o' hl h h1 h2, World.putObj_heap_other (by omega)⟩
end Go.Proofs.YtplieplmhdfndaaGreatDoor

namespace Go.Proofs.YtplieplmhdfndaaGreatDoor
set_option linter.unusedVariables false
set_option linter.unusedSimpArgs false
open Go.RowKit

/-- The nodes' pointers lie in block bn. -/
structure OpP (w : World) (bn : Nat) (L : List Nd) (ps : Array Value) : Prop where
  blk : Blk w bn ps 82
  len : ps.size = L.length
  at_ : ∀ i, i < L.length → ∃ p, ps[i]? = some p ∧ OpN w (ndAt L i) p
theorem OpP.below {w w' : World} {bn : Nat} {L : List Nd} {ps : Array Value} (h : OpP w bn L ps) (hb : Below w.heap.size w w') : OpP w' bn L ps :=
  ⟨h.blk.below hb h.blk.lt, h.len, fun i hi => by obtain ⟨p, h1, h2⟩ := h.at_ i hi; exact ⟨p, h1, h2.below hb⟩⟩
/-- A state that was opened, at block bs. -/
structure OpS (w : World) (bs bn : Nat) (C : Int) (L : List Nd) (ps : Array Value) : Prop where
  st : Blk w bs #[.int .i64 C, .slice (some ⟨bn, 0, none⟩) L.length L.length] 85
  nd : OpP w bn L ps
theorem OpS.below {w w' : World} {bs bn : Nat} {C : Int} {L : List Nd} {ps : Array Value} (h : OpS w bs bn C L ps) (hb : Below w.heap.size w w') : OpS w' bs bn C L ps := ⟨h.st.below hb h.st.lt, h.nd.below hb⟩
theorem OpP.cell {w : World} {bn : Nat} {L : List Nd} {ps : Array Value} (h : OpP w bn L ps) {i : Nat} (hi : i < L.length) : ∃ p, w.cell? ⟨bn, i, none⟩ = some p ∧ OpN w (ndAt L i) p := by
  obtain ⟨p, h1, h2⟩ := h.at_ i hi
  exact ⟨p, (h.blk.cell i).trans h1, h2⟩
/-- What is read of a node that isn't free. -/
theorem OpN.some {w : World} {x : Nd} {p : Value} (h : OpN w x p) (hk : x.k ≠ 0) : ∃ g a c dp, p = .pointer (some ⟨g, 0, none⟩) ∧ Blk w g #[.int .i64 x.k, .int .i64 x.l, .int .i64 x.m, .int .i64 x.u, .int .i64 x.g, .int .i64 x.p, .int .i64 x.e, .int .i64 x.t, .int .i64 x.c, .slice a x.d.length c, .pointer dp] 81 ∧ Rd .u8 w (.slice a x.d.length c) x.d ∧ (a = none → c = 0) ∧ (x.k ≠ 2 → dp = none) ∧ (x.k = 2 → ∃ d, dp = some ⟨d, 0, none⟩ ∧ DirR w d x.d) := by
  rcases h with ⟨h, _⟩ | ⟨_, g, a, c, dp, h1, h2, h3, hn, h4⟩
  · exact absurd h hk
  · rcases h4 with ⟨h4, rfl⟩ | ⟨h4, d, rfl, h5⟩
    · exact ⟨g, a, c, none, h1, h2, h3, hn, fun _ => rfl, fun h => absurd h h4⟩
    · exact ⟨g, a, c, _, h1, h2, h3, hn, fun h => absurd h4 h, fun _ => ⟨d, rfl, h5⟩⟩
theorem OpN.free {w : World} {x : Nd} {p : Value} (h : OpN w x p) (hk : x.k = 0) : p = .pointer none := by
  rcases h with ⟨_, h⟩ | ⟨h, _⟩
  · exact h
  · exact absurd hk h
set_option maxRecDepth 100000 in
set_option maxHeartbeats 4000000 in
theorem mayName_any (bs bn : Nat) (C : Int) (L : List Nd) (ps : Array Value) (w : World) (h : OpS w bs bn C L ps) (hL : L.length ≤ 1048576) (i : Nat) (nm : ByteArray) (ino kd : Nat) :
    Calls Tryz.prog 99 #[.pointer (some ⟨bs, 0, none⟩), .int .i64 (i : Int), .agg #[.string nm, .int .i64 (ino : Int), .int .i64 (kd : Int)]] w fun e w' => e = .returned (.bool (mayE L i (nm, ino, kd))) ∧ Below w.heap.size w w' := by
  obtain ⟨N, hN⟩ : ∃ N, N = L.length := ⟨_, rfl⟩
  obtain ⟨W1, hW1⟩ : ∃ W1, W1 = w.alloc (.cells #[.string nm, .int .i64 (ino : Int), .int .i64 (kd : Int)] 61) := ⟨_, rfl⟩
  have b1 : Below w.heap.size w W1 := by rw [hW1]; exact (Below.refl _ _).alloc (Nat.le_refl _) _
  have K1 := hide (show Blk W1 w.heap.size #[.string nm, .int .i64 (ino : Int), .int .i64 (kd : Int)] 61 from by rw [hW1]; exact Blk.new w _ _)
  have HO := hide (h.below b1)
  have HB := hide b1
  have HN := hide hN
  have HW1 := hide hW1
  rw [← hN] at hL
  have FA := hide (show ∀ W, Below W1.heap.size W1 W → W.cell? ⟨w.heap.size, 1, none⟩ = some (.int .i64 (ino : Int)) ∧ W.cell? ⟨w.heap.size, 2, none⟩ = some (.int .i64 (kd : Int)) ∧ W.cell? ⟨bs, 1, none⟩ = some (.slice (some ⟨bn, 0, none⟩) N N) from fun W hb => by
    have k := K1.out.below hb K1.out.lt
    have o := HO.out.below hb
    refine ⟨(k.cell 1).trans rfl, (k.cell 2).trans rfl, ?_⟩
    rw [HN.out]
    exact (o.st.cell 1).trans rfl)
  have HBW := hide (show ∀ W, Below W1.heap.size W1 W → Below w.heap.size w W from fun W hb => HB.out.trans (hb.mono HB.out.size))
  clear h b1 hW1 hN
  have f0 := (FA.out W1 (Below.refl _ _)).1
  have f1 := (FA.out W1 (Below.refl _ _)).2.2
  by_cases h1 : ino = 1
  · have h1b : ((ino : Int) == 1) = true := by rw [h1]; rfl
    have HE := hide (show mayE L i (nm, ino, kd) = false from by unfold mayE; rw [decide_eq_false (by simpa using h1)]; rfl)
    rw [HE.out]
    clear h1
    go_enter Tryz.func99, Tryz.ntmps99
    go_upto_region 1 with fail
    rw [← HW1.out]
    go_quiet (fail)
    go_wp2_with fail
    go_ret
    exact ⟨rfl, HBW.out _ (Go.below_drewN (Below.refl _ _) _)⟩
  have h1b : ((ino : Int) == 1) = false := by simp; omega
  by_cases h2 : N ≤ ino
  · have h2b : decide (N ≤ ino) = true := decide_eq_true h2
    have HE := hide (show mayE L i (nm, ino, kd) = false from by unfold mayE; rw [decide_eq_false (show ¬ ino < L.length by rw [← HN.out]; omega)]; simp)
    rw [HE.out]
    clear h1 h2
    go_enter Tryz.func99, Tryz.ntmps99
    go_upto_region 1 with fail
    rw [← HW1.out]
    go_quiet (fail)
    go_wp2_with fail
    go_ret
    exact ⟨rfl, HBW.out _ (Go.below_drewN (Below.refl _ _) _)⟩
  have h2b : decide (N ≤ ino) = false := decide_eq_false h2
  have hlt : (ino : Int) < (N : Int) := by omega
  have hge : ¬ ((N : Int) ≤ (ino : Int)) := by omega
  have hin : ino < L.length := by rw [← HN.out]; omega
  go_enter Tryz.func99, Tryz.ntmps99
  go_upto_region 1 with fail
  rw [← HW1.out]
  clear HW1
  have H12 := hide (And.intro h1 h2)
  clear h1 h2
  go_quiet (fail)
  obtain ⟨W2, hW2⟩ : ∃ W2, W2 = W1.drewN nq := ⟨_, rfl⟩
  have B2 := hide (show Below W1.heap.size W1 W2 from by rw [hW2]; exact Go.below_drewN (Below.refl _ _) _)
  rw [← hW2]
  clear hW2
  clear nq h1b h2b f0 f1
  obtain ⟨p, hp, hop⟩ := (HO.out.below B2.out).nd.cell hin
  have HP := hide hop
  have f0 := (FA.out W2 B2.out).1
  have f1 := (FA.out W2 B2.out).2.2
  clear hop
  have hltN : ino < N := by omega
  go_upto_region 3 with fail
  have HIN := hide hin
  have HC := hide (And.intro hlt hge)
  by_cases hk0 : (ndAt L ino).k = 0
  · obtain rfl := HP.out.free hk0
    have HE := hide (show mayE L i (nm, ino, kd) = false from by unfold mayE; rw [decide_eq_false (show ¬ (ndAt L (nm, ino, kd).2.1).k ≠ 0 from fun h => h hk0)]; simp)
    clear hk0
    go_quiet (fail)
    go_upto_region 4 with fail
    go_quiet (fail)
    go_wp2_with fail
    go_ret
    exact ⟨by rw [HE.out]; rfl, HBW.out _ (B2.out.trans ((Go.below_drewN (Below.refl _ _) _).mono B2.out.size))⟩
  obtain ⟨g, na, nc, dp, rfl, hblk, _, _, hd1, hd2⟩ := HP.out.some hk0
  obtain ⟨x, hx⟩ : ∃ x, x = ndAt L ino := ⟨_, rfl⟩
  rw [← hx] at hblk hk0 hd1 hd2
  have KG := hide hblk
  have HX := hide hx
  have HD := hide (And.intro hd1 hd2)
  have HK0 := hide hk0
  clear hblk hx hd1 hd2 hk0 HP
  go_quiet (fail)
  obtain ⟨W3, hW3⟩ : ∃ W3, W3 = W2.drewN nq := ⟨_, rfl⟩
  have B23 := hide (show Below W2.heap.size W2 W3 from by rw [hW3]; exact Go.below_drewN (Below.refl _ _) _)
  rw [← hW3]
  clear hW3 hp f0 f1
  clear nq
  have B3 := hide (B2.out.trans (B23.out.mono B2.out.size))
  have KG3 := hide (KG.out.below B23.out KG.out.lt)
  have g0 := (KG3.out.cell 0).trans (show _ = some (.int .i64 x.k) from rfl)
  have f2 := (FA.out W3 B3.out).2.1
  have HEE := hide (show mayE L i (nm, ino, kd) = (decide (x.k = (kd : Int)) && (!decide (x.k = 2) || decide (x.p = (i : Int)))) from by
    unfold mayE
    rw [decide_eq_true (show (nm, ino, kd).2.1 ≠ 1 from H12.out.1), decide_eq_true (show (nm, ino, kd).2.1 < L.length from HIN.out), ← HX.out, decide_eq_true HK0.out]
    simp)
  by_cases hk : x.k = (kd : Int)
  rotate_left
  · have hkb : (x.k != (kd : Int)) = true := by simpa using hk
    have HM := hide (HEE.out.trans (show _ = false from by rw [decide_eq_false hk, Bool.false_and]))
    clear hk
    go_upto_region 4 with fail
    go_quiet (fail)
    go_wp2_with fail
    go_ret
    exact ⟨by rw [HM.out]; rfl, HBW.out _ (B3.out.trans ((Go.below_drewN (Below.refl _ _) _).mono B3.out.size))⟩
  have hkb : (x.k != (kd : Int)) = false := by simp [hk]
  have HE3 := hide (HEE.out.trans (show _ = (!decide (x.k = 2) || decide (x.p = (i : Int))) from by rw [decide_eq_true hk, Bool.true_and]))
  clear hk
  go_upto_region 4 with fail
  go_quiet (fail)
  obtain ⟨W4, hW4⟩ : ∃ W4, W4 = W3.drewN nq := ⟨_, rfl⟩
  have B34 := hide (show Below W3.heap.size W3 W4 from by rw [hW4]; exact Go.below_drewN (Below.refl _ _) _)
  rw [← hW4]
  clear hW4
  clear nq
  have KG4 := hide (KG3.out.below B34.out KG3.out.lt)
  have HBE := hide (HBW.out _ (B3.out.trans (B34.out.mono B3.out.size)))
  clear g0 f2 hkb
  have g10 := (KG4.out.cell 10).trans (show _ = some (.pointer dp) from rfl)
  have g5 := (KG4.out.cell 5).trans (show _ = some (.int .i64 x.p) from rfl)
  by_cases hk2 : x.k = 2
  rotate_left
  · obtain rfl := HD.out.1 hk2
    have HM := hide (HE3.out.trans (show _ = true from by rw [decide_eq_false hk2]; rfl))
    clear hk2
    go_wp2_with fail
    go_ret
    exact ⟨by rw [HM.out]; rfl, HBE.out⟩
  obtain ⟨d, rfl, _⟩ := HD.out.2 hk2
  have HE4 := hide (HE3.out.trans (show _ = decide (x.p = (i : Int)) from by rw [decide_eq_true hk2]; rfl))
  clear hk2
  by_cases hpi : x.p = (i : Int)
  · have hpb : (x.p == (i : Int)) = true := by simp [hpi]
    have HM := hide (HE4.out.trans (decide_eq_true hpi))
    clear hpi
    go_wp2_with fail
    go_ret
    exact ⟨by rw [HM.out]; rfl, HBE.out⟩
  · have hpb : (x.p == (i : Int)) = false := by simpa using hpi
    have HM := hide (HE4.out.trans (decide_eq_false hpi))
    clear hpi
    go_wp2_with fail
    go_ret
    exact ⟨by rw [HM.out]; rfl, HBE.out⟩
set_option maxRecDepth 100000 in
set_option maxHeartbeats 4000000 in
theorem linksOf_any (x : Nd) (g : Nat) (a : Option Addr) (q c : Nat) (dp : Option Addr) (cn cd : Int) (w : World) (hblk : Blk w g #[.int .i64 x.k, .int .i64 x.l, .int .i64 x.m, .int .i64 x.u, .int .i64 x.g, .int .i64 x.p, .int .i64 x.e, .int .i64 x.t, .int .i64 x.c, .slice a q c, .pointer dp] 81) (h1 : x.k ≠ 2 → dp = none) (h2 : x.k = 2 → ∃ d, dp = some ⟨d, 0, none⟩ ∧ DirR w d x.d) (hcd : 0 ≤ cd ∧ cd ≤ 1099511627776) :
    Calls Tryz.prog 100 #[.pointer (some ⟨g, 0, none⟩), .agg #[.int .i64 cn, .int .i64 cd]] w fun e w' => e = .returned (.int .i64 (if x.k = 2 then 2 + cd else cn)) ∧ Below w.heap.size w w' := by
  have HK := hide (hblk.alloc (.cells #[.int .i64 cn, .int .i64 cd] 182))
  have KN := hide (Blk.new w #[.int .i64 cn, .int .i64 cd] 182)
  have g10 := (HK.out.cell 10).trans (show _ = some (.pointer dp) from rfl)
  have n0 := (KN.out.cell 0).trans (show _ = some (.int .i64 cn) from rfl)
  have n1 := (KN.out.cell 1).trans (show _ = some (.int .i64 cd) from rfl)
  have hw2 : IntKind.i64.wrap (2 + cd) = 2 + cd := by rw [IntKind.wrap_i64]; omega
  have HB := hide (show Below w.heap.size w (w.alloc (.cells #[.int .i64 cn, .int .i64 cd] 182)) from (Below.refl _ _).alloc (Nat.le_refl _) _)
  clear hblk
  by_cases hk : x.k = 2
  · obtain ⟨d, rfl, _⟩ := h2 hk
    rw [if_pos hk]
    clear hk h1 h2
    go_enter Tryz.func100, Tryz.ntmps100
    go_wp2
    go_ret
    exact ⟨by go_num, HB.out⟩
  · obtain rfl := h1 hk
    rw [if_neg hk]
    clear hk h1 h2
    go_enter Tryz.func100, Tryz.ntmps100
    go_wp2
    go_ret
    exact ⟨rfl, HB.out⟩
end Go.Proofs.YtplieplmhdfndaaGreatDoor

namespace Go.Proofs.YtplieplmhdfndaaGreatDoor
set_option linter.unusedVariables false
set_option linter.unusedSimpArgs false
open Go.RowKit

def allB : Nat → List (List Bool)
  | 0 => [[]]
  | n + 1 => (allB n).flatMap fun l => [true :: l, false :: l]
theorem mem_allB : ∀ (l : List Bool), l ∈ allB l.length
  | [] => by simp [allB]
  | b :: l => by
    simp only [List.length_cons, allB, List.mem_flatMap]
    exact ⟨l, mem_allB l, by cases b <;> simp⟩
/-- The listed ones: l says which of the first ones have come, the others have not. -/
def lstB (N mm : Nat) (l : List Bool) : Array Bool := (l ++ List.replicate (N - mm) false).toArray
def closedB (ops : Array Oper) (mm : Nat) (l : List Bool) : Bool := (List.range mm).all fun i => !(l.getD i false) || (match ops[i]? with | some o => o.after.toList.all (fun e => !(Region.binds .any e) || l.getD e.on false) | none => true)
def readsB (ops : Array Oper) (mm : Nat) : Bool := decide (mm ≤ ops.size) && (allB mm).all fun l => !(closedB ops mm l) || l.all id || (!(Region.ready .any ops (lstB ops.size mm l)).isEmpty && (Region.ready .any ops (lstB ops.size mm l)).all (fun i => decide (i < mm)))
theorem readsB_at {ops : Array Oper} {mm : Nat} (h : readsB ops mm = true) {l : List Bool} (hl : l.length = mm) (hc : closedB ops mm l = true) (hn : l.all id = false) : Region.ready .any ops (lstB ops.size mm l) ≠ [] ∧ ∀ i ∈ Region.ready .any ops (lstB ops.size mm l), i < mm := by
  unfold readsB at h
  rw [Bool.and_eq_true, List.all_eq_true] at h
  have h1 := h.2 l (by rw [← hl]; exact mem_allB l)
  rw [hc, hn] at h1
  simp at h1
  exact ⟨h1.1, h1.2⟩
theorem lst_getD {N mm : Nat} {l : List Bool} (hl : l.length = mm) (i : Nat) : (lstB N mm l).getD i false = l.getD i false := by
  unfold lstB
  rw [Array.getD_eq_getD_getElem?]
  simp only [List.getElem?_toArray, List.getElem?_append, List.getD_eq_getElem?_getD]
  split
  · rfl
  · rw [List.getElem?_replicate]
    rw [List.getElem?_eq_none (by omega)]
    split <;> rfl
theorem lst_set {N mm : Nat} {l : List Bool} (hl : l.length = mm) {i : Nat} (hi : i < mm) : (lstB N mm l).setIfInBounds i true = lstB N mm (l.set i true) := by
  unfold lstB
  simp [List.set_append, hl, hi]
theorem wpAnyIn_reads {F : Fence} {n : Nat} {P : Program} {ops : Array Oper} {Q : Exit → Act → World → Prop} (fs : List (Nat × Value)) (w : World) (V : Nat → Value) (m : Nat) (ds : List Deferred) (mm : Nat)
    (hB : rchkB ops m (fs.map (·.1)) = true) (hchk : readsB ops mm = true)
    (hstep : ∀ (i : Nat) (o : Oper) (listed : Array Bool) (a : Act), i < mm → ops[i]? = some o → (∀ e ∈ o.after, Region.binds .any e = true → listed.getD e.on false = true) → RInv ops fs (fun w' => w' = w) (fun i v _ => v = V i) m ds listed a w →
      Region.wanted o (yielded ops a.tmps) = true ∧ (∀ c, o.op ≠ .call c) ∧ (∀ c, o.op ≠ .defer c) ∧ (execOp a.eval o).run P w = .ok (.value (V i)) w)
    (hfin : ∀ a, RInv ops fs (fun w' => w' = w) (fun i v _ => v = V i) m ds (lstB ops.size mm (List.replicate mm true)) a w → wpAnyIn F n P .any ops Q (ops.size - mm) (lstB ops.size mm (List.replicate mm true)) a w) :
    ∀ (k : Nat) (l : List Bool) (a : Act), l.length = mm → closedB ops mm l = true → l.count false = k → RInv ops fs (fun w' => w' = w) (fun i v _ => v = V i) m ds (lstB ops.size mm l) a w → wpAnyIn F n P .any ops Q (k + (ops.size - mm)) (lstB ops.size mm l) a w
  | 0, l, a, hl, hc, hk, hI => by
    have e : l = List.replicate mm true := by
      rw [List.eq_replicate_iff]
      refine ⟨hl, fun b hb => ?_⟩
      cases b with
      | true => rfl
      | false => exact absurd (List.count_pos_iff.2 hb) (by omega)
    subst e
    rw [Nat.zero_add]
    exact hfin a hI
  | k + 1, l, a, hl, hc, hk, hI => by
    have hn : l.all id = false := by
      have : false ∈ l := List.count_pos_iff.1 (by omega)
      cases e : l.all id with
      | false => rfl
      | true => rw [List.all_eq_true] at e; have := e false this; simp at this
    obtain ⟨hne, hlt⟩ := readsB_at hchk hl hc hn
    rw [show k + 1 + (ops.size - mm) = (k + (ops.size - mm)) + 1 by omega]
    refine ⟨fun h => absurd h hne, fun i hi => ?_⟩
    have him := hlt i hi
    obtain ⟨h0, o, ho, hall⟩ := mem_ready.1 hi
    have hall' : ∀ e ∈ o.after, Region.binds .any e = true → (lstB ops.size mm l).getD e.on false = true := hall
    obtain ⟨hwt, hnc, hnd, hrun⟩ := hstep i o _ a him ho hall' hI
    have hab : o.about P w a.eval = none := by
      unfold Oper.about
      split
      · rename_i c hc
        exact absurd hc (hnc c)
      · rfl
    unfold wpOpIn
    simp only [ho, hwt, if_true]
    unfold Oper.wpIn
    refine ⟨by simp [hab], ?_⟩
    rw [Oper.semAt_plain F _ _ hnd, hrun]
    show wpAnyIn F n P .any ops Q (k + (ops.size - mm)) ((lstB ops.size mm l).setIfInBounds i true) (a.put o.dst (V i)) w
    rw [lst_set hl him]
    have hli : l.getD i false = false := by
      have h1 : (lstB ops.size mm l).getD i true = false := h0
      unfold lstB at h1
      rw [Array.getD_eq_getD_getElem?, List.getElem?_toArray, List.getElem?_append_left (by omega), List.getElem?_eq_getElem (by omega)] at h1
      rw [List.getD_eq_getElem?_getD, List.getElem?_eq_getElem (by omega)]
      exact h1
    have hget : ∀ j, (lstB ops.size mm (l.set i true)).getD j false = if j = i then true else (lstB ops.size mm l).getD j false := fun j => by
      rw [lst_getD (by simpa using hl), lst_getD hl, List.getD_eq_getElem?_getD, List.getD_eq_getElem?_getD, List.getElem?_set]
      by_cases e : i = j
      · subst e
        rw [if_pos rfl, if_pos (by omega), if_pos rfl]; rfl
      · rw [if_neg e, if_neg (fun h => e h.symm)]
    refine wpAnyIn_reads fs w V m ds mm hB hchk hstep hfin k (l.set i true) _ (by simpa using hl) ?_ ?_ ?_
    · unfold closedB at hc ⊢
      rw [List.all_eq_true] at hc ⊢
      intro j hj
      have hcj := hc j hj
      have hset : ∀ x, l.getD x false = true → (l.set i true).getD x false = true := fun x hx => by
        rw [List.getD_eq_getElem?_getD, List.getElem?_set]
        by_cases e : i = x
        · subst e; rw [if_pos rfl, if_pos (by omega)]; rfl
        · rw [if_neg e]; rw [List.getD_eq_getElem?_getD] at hx; exact hx
      by_cases e : j = i
      · subst e
        rw [ho]
        simp only [Bool.or_eq_true, List.all_eq_true]
        refine .inr (fun ed he => ?_)
        cases hbd : Region.binds .any ed with
        | false => simp
        | true =>
          have h5 := hall' ed (Array.mem_toList_iff.1 he) hbd
          rw [lst_getD hl] at h5
          exact .inr (hset _ h5)
      · have hji : (l.set i true).getD j false = l.getD j false := by
          rw [List.getD_eq_getElem?_getD, List.getD_eq_getElem?_getD, List.getElem?_set, if_neg (fun h => e h.symm)]
        rw [hji]
        rw [Bool.or_eq_true] at hcj ⊢
        rcases hcj with h | h
        · exact .inl h
        · refine .inr ?_
          cases hoj : ops[j]? with
          | none => rfl
          | some oj =>
            rw [hoj] at h
            simp only [List.all_eq_true, Bool.or_eq_true] at h ⊢
            intro ed he
            rcases h ed he with h6 | h6
            · exact .inl h6
            · exact .inr (hset _ h6)
    · have hcs : List.count false (l.set i true) + 1 = List.count false l := by
        have hlt2 : i < l.length := by omega
        rw [List.count_set hlt2]
        have hv : l[i] = false := by rw [List.getD_eq_getElem?_getD, List.getElem?_eq_getElem hlt2] at hli; exact hli
        have hp : 0 < l.count false := by omega
        simp [hv]
        omega
      omega
    · cases hd : o.dst with
      | none =>
        refine ⟨hI.sz, hI.df, rfl, fun j oj d hj hl2 hjd => ?_, hI.fix, fun j oj hj hl2 => ⟨_, rfl⟩⟩
        rw [hget] at hl2
        by_cases e : j = i
        · subst e
          rw [ho] at hj
          cases hj
          rw [hd] at hjd
          cases hjd
        · rw [if_neg e] at hl2
          exact hI.vals j oj d hj hl2 hjd
      | some d0 =>
        have hf := (rchkB_at hB ho).2 d0 hd
        have hd0 : d0 < a.tmps.size := by rw [hI.sz]; exact hf.1
        refine ⟨by simp [Act.put, hI.sz], by simpa [Act.put] using hI.df, rfl, fun j oj d hj hl2 hjd => ?_, fun t u htu => ?_, fun j oj hj hl2 => ⟨_, rfl⟩⟩
        · rw [hget] at hl2
          rw [getD_put hd0]
          by_cases e : j = i
          · subst e
            rw [ho] at hj
            cases hj
            rw [hd] at hjd
            cases hjd
            rw [if_pos rfl]
          · rw [if_neg e] at hl2
            have hne2 : d ≠ d0 := fun h => by
              subst h
              rcases Nat.lt_trichotomy j i with h | h | h
              · exact ((rchkB_at hB ho).2 d hd).2.2 j oj h hj hjd
              · exact e h
              · exact ((rchkB_at hB hj).2 d hjd).2.2 i o h ho hd
            rw [if_neg hne2]
            exact hI.vals j oj d hj hl2 hjd
        · rw [getD_put hd0, if_neg (fun h : t = d0 => hf.2.1 (List.mem_map.2 ⟨(t, u), htu, h⟩))]
          exact hI.fix t u htu
/-- From the beginning. -/
theorem wpAnyIn_readsB {F : Fence} {n : Nat} {P : Program} {ops : Array Oper} {Q : Exit → Act → World → Prop} (fs : List (Nat × Value)) (w : World) (V : Nat → Value) (m : Nat) (ds : List Deferred) (mm : Nat)
    (hB : rchkB ops m (fs.map (·.1)) = true) (hchk : readsB ops mm = true)
    (hstep : ∀ (i : Nat) (o : Oper) (listed : Array Bool) (a : Act), i < mm → ops[i]? = some o → (∀ e ∈ o.after, Region.binds .any e = true → listed.getD e.on false = true) → RInv ops fs (fun w' => w' = w) (fun i v _ => v = V i) m ds listed a w →
      Region.wanted o (yielded ops a.tmps) = true ∧ (∀ c, o.op ≠ .call c) ∧ (∀ c, o.op ≠ .defer c) ∧ (execOp a.eval o).run P w = .ok (.value (V i)) w)
    (hfin : ∀ a, RInv ops fs (fun w' => w' = w) (fun i v _ => v = V i) m ds (lstB ops.size mm (List.replicate mm true)) a w → wpAnyIn F n P .any ops Q (ops.size - mm) (lstB ops.size mm (List.replicate mm true)) a w)
    (a : Act) (hsz : a.tmps.size = m) (hdf : a.defers = ds) (hf : ∀ t v, (t, v) ∈ fs → a.tmps.getD t undef = v) : wpAnyIn F n P .any ops Q ops.size (Array.replicate ops.size false) a w := by
  have hmm : mm ≤ ops.size := by
    unfold readsB at hchk
    rw [Bool.and_eq_true] at hchk
    exact of_decide_eq_true hchk.1
  have e : Array.replicate ops.size false = lstB ops.size mm (List.replicate mm false) := by
    unfold lstB
    rw [List.replicate_append_replicate, show mm + (ops.size - mm) = ops.size by omega]
    simp
  have h := wpAnyIn_reads (F := F) (n := n) (P := P) (Q := Q) fs w V m ds mm hB hchk hstep hfin mm (List.replicate mm false) a (by simp) ?_ (by simp) ⟨hsz, hdf, rfl, fun i o d _ hl _ => ?_, hf, fun i o _ hl => ⟨_, rfl⟩⟩
  · rw [show mm + (ops.size - mm) = ops.size by omega] at h
    rw [e]
    exact h
  · unfold closedB
    rw [List.all_eq_true]
    intro j hj
    have : (List.replicate mm false).getD j false = false := by rw [List.getD_eq_getElem?_getD, List.getElem?_replicate]; split <;> rfl
    rw [this]
    rfl
  · rw [lst_getD (by simp)] at hl
    have : (List.replicate mm false).getD i false = false := by rw [List.getD_eq_getElem?_getD, List.getElem?_replicate]; split <;> rfl
    rw [this] at hl
    cases hl
end Go.Proofs.YtplieplmhdfndaaGreatDoor
