/- The parts of sync.Once: Lock, Unlock, the stored flag (after the kit's worked Lazy). sync.Once: Do, not yet done and the lock free: the closure of mapWords is called once. The words of a volume's map, read when first asked for: mapWords. take at no bytes and at less than none; zeros and end. -/
import Derived.Test.YtkbbnflblkkepaaGreatDoorZm06
import Derived.Defers
import Derived.Laws.Pointers
import Derived.Laws.LoneSync
import Derived.RegionTactic
import Derived.RegionCalls
import Derived.Test.YtkbbnflblkkepaaGreatDoorZm19
import Derived.Test.YtkbbnflblkkepaaGreatDoorZm05
namespace Go.Proofs.YtkbbnflblkkepaaGreatDoor
set_option linter.unusedVariables false
set_option linter.unusedSimpArgs false
open Go.RowKit

theorem raceOff (w : World) : (callFunc 104 #[]).run Tryz.prog w = .ok (.value (.tuple #[])) w := run_call_mark0 Tryz.func104 (by kernel_rfl) (by kernel_rfl) (by kernel_rfl) .disable (by kernel_rfl) w
theorem raceOn (w : World) : (callFunc 106 #[]).run Tryz.prog w = .ok (.value (.tuple #[])) w := run_call_mark0 Tryz.func106 (by kernel_rfl) (by kernel_rfl) (by kernel_rfl) .enable (by kernel_rfl) w
theorem raceGet (a : Addr) (w : World) : (callFunc 107 #[.pointer (some a)]).run Tryz.prog w = .ok (.value (.tuple #[])) w := run_call_marked Tryz.func107 (by kernel_rfl) (by kernel_rfl) (by kernel_rfl) .acquire (by kernel_rfl) a w
theorem raceLet (a : Addr) (w : World) : (callFunc 109 #[.pointer (some a)]).run Tryz.prog w = .ok (.value (.tuple #[])) w := run_call_marked Tryz.func109 (by kernel_rfl) (by kernel_rfl) (by kernel_rfl) .releaseMerge (by kernel_rfl) a w
set_option maxRecDepth 100000 in
set_option maxHeartbeats 1600000 in
/-- The flag is stored, as a deferred call. -/
theorem store_def (a : Addr) (x : Value) (u : FrameMode) (w : World) (hc : w.cell? a = some x) (hz : w.frozen? a = false) :
    CallsD Tryz.prog 82 #[.pointer (some a), .bool true] u w fun e u' w' => u' = u ∧ (e = .returned (.tuple #[]) ∧ w' = w.drew.setCell a (.int .u32 1)) := by
  have hc' : w.drew.cell? a = some x := by go_simp
  have hz' : w.drew.frozen? a = false := by go_simp
  have hst := run_call_store (P := Tryz.prog) Tryz.func98 (by kernel_rfl) (by kernel_rfl) (by kernel_rfl) (by kernel_rfl) (k := .u32) (y := 1) hc' hz'
  go_enter_d Tryz.func82, Tryz.ntmps82
  go_wp2
  go_region_calls
  all_goals (go_end0; exact ⟨rfl, rfl⟩)
set_option maxRecDepth 100000 in
set_option maxHeartbeats 1600000 in
/-- The lock is let go, as a deferred call. -/
theorem unlock_def (a : Addr) (u : FrameMode) (w : World) (hc : w.cell? a = some (.int .i32 1)) (hz : w.frozen? a = false) :
    CallsD Tryz.prog 81 #[.pointer (some a)] u w fun e u' w' => u' = u ∧ (e = .returned (.tuple #[]) ∧ w' = w.setCell a (.int .i32 0)) := by
  have hd := raceOff
  have he := raceOn
  have hr := raceLet
  have hadd := run_call_add (P := Tryz.prog) Tryz.func110 (by kernel_rfl) (by kernel_rfl) (by kernel_rfl) .i32 (by kernel_rfl) (y := -1) (s := 0) hc hz (by simp [go_sem]; rfl)
  have hcv := run_convert_to_unsafe (P := Tryz.prog) (src := 191) (dst := 104) Tryz.underlying191 Tryz.underlying104 (by kernel_rfl) hc
  go_enter_d Tryz.func81, Tryz.ntmps81
  go_wp2
  go_end0
  go_wp2
  go_end0
  exact ⟨rfl, rfl⟩
set_option maxRecDepth 100000 in
set_option maxHeartbeats 1600000 in
/-- The lock is taken where it is free. -/
theorem lock_one (a : Addr) (w : World) (hc : w.cell? a = some (.int .i32 0)) (hz : w.frozen? a = false) :
    Calls Tryz.prog 80 #[.pointer (some a)] w fun e w' => e = .returned (.tuple #[]) ∧ w' = w.setCell a (.int .i32 1) := by
  have hd := raceOff
  have he := raceOn
  have ha := raceGet
  have hcas := run_call_cas_hit (P := Tryz.prog) Tryz.func105 (by kernel_rfl) (by kernel_rfl) (by kernel_rfl) .i32 (by kernel_rfl) (y := 1) hc hz
  have hc' : (w.setCell a (.int .i32 1)).cell? a = some (.int .i32 1) := World.cell?_setCell_same w a _ hc
  have hcv := run_convert_to_unsafe (P := Tryz.prog) (src := 191) (dst := 104) Tryz.underlying191 Tryz.underlying104 (by kernel_rfl) hc'
  go_enter Tryz.func80, Tryz.ntmps80
  go_wp2
  first | go_end0 | (simp only [Exit.inBlock, Exit.then]; refine bodyPost_ret (results_none rfl _ _ _) rfl ?_) | refine bodyPost_ret (results_none rfl _ _ _) rfl ?_
  go_wp2
  go_end0
  exact ⟨rfl, rfl⟩
end Go.Proofs.YtkbbnflblkkepaaGreatDoor

namespace Go.Proofs.YtkbbnflblkkepaaGreatDoor
set_option linter.unusedVariables false
set_option linter.unusedSimpArgs false
open Go.RowKit

/-- The flag is looked at. -/
theorem load_zero (a : Addr) (w : World) (h0 : w.cell? a = some (.int .u32 0)) : Calls Tryz.prog 46 #[.pointer (some a)] w fun e w' => e = .returned (.bool false) ∧ w = w' := by
  have hl := run_call_load (P := Tryz.prog) Tryz.func79 (by kernel_rfl) (by kernel_rfl) (by kernel_rfl) .u32 (by kernel_rfl) h0
  go_enter Tryz.func46, Tryz.ntmps46
  go_wp2
  go_ret
  exact ⟨rfl, rfl⟩
set_option maxRecDepth 100000 in
set_option maxHeartbeats 1600000 in
theorem slow_once (v o : Nat) (pl : Addr) (w : World) (R : World → Prop) (h0 : w.cell? ⟨v, o, none⟩ = some (.int .u32 0)) (h1 : w.cell? ⟨v, o + 1, none⟩ = some (.int .i32 0)) (f1 : w.frozen? ⟨v, o + 1, none⟩ = false)
    (hf : Calls Tryz.prog 29 #[.pointer (some pl)] (w.setCell ⟨v, o + 1, none⟩ (.int .i32 1)) fun e w2 => e = .returned (.tuple #[]) ∧ R w2 ∧ w2.cell? ⟨v, o, none⟩ = some (.int .u32 0) ∧ w2.cell? ⟨v, o + 1, none⟩ = some (.int .i32 1) ∧ w2.frozen? ⟨v, o, none⟩ = false ∧ w2.frozen? ⟨v, o + 1, none⟩ = false) :
    Calls Tryz.prog 47 #[.pointer (some ⟨v, o, none⟩), .func (.func 29) #[] #[.pointer (some pl)]] w fun e w' => e = .returned (.tuple #[]) ∧ ∃ w2, R w2 ∧ w' = (w2.drew.setCell ⟨v, o, none⟩ (.int .u32 1)).setCell ⟨v, o + 1, none⟩ (.int .i32 0) := by
  have HL := hide ((World.cell?_setCell_other w ⟨v, o + 1, none⟩ ⟨v, o, none⟩ (.int .i32 1) (by simp)).trans h0)
  have hnot : ∀ (x : Bool) (w : World), (Op.unary .not (.bool x)).run Tryz.prog w = .ok (.bool (!x)) w := fun _ _ => rfl
  have HF := hide hf
  clear hf
  go_enter_defers Tryz.func47, Tryz.ntmps47
  go_wp2_with (first
    | (go_at_call 80; refine (lock_one ⟨v, o + 1, none⟩ _ (by go_simp) (by go_simp)).mono ?_; rintro e w' ⟨rfl, rfl⟩)
    | (go_at_call 46; refine (load_zero ⟨v, o, none⟩ _ HL.out).mono ?_; rintro e w' ⟨rfl, rfl⟩)
    | (go_at_call 29; refine HF.out.mono ?_; rintro e w2 ⟨rfl, hR, c0, c1, z0, z1⟩; have HR := hide hR; clear hR))
  -- the door: two deferred calls, the last laid first
  refine leaves_cons (f := 82) (args := #[.pointer (some ⟨v, o, none⟩), .bool true]) (by simp) (by simp [go_sem]) ?_
  refine (store_def ⟨v, o, none⟩ (.int .u32 0) .returning _ c0 z0).mono ?_
  rintro e u' w'' ⟨rfl, rfl, rfl⟩
  refine leaves_cons (f := 81) (args := #[.pointer (some ⟨v, o + 1, none⟩)]) (by simp [settle]) (by simp [go_sem]) ?_
  refine (unlock_def ⟨v, o + 1, none⟩ _ _ ?_ (by simp [z1])).mono ?_
  · refine (World.cell?_setCell_other _ ⟨v, o, none⟩ ⟨v, o + 1, none⟩ _ (by simp)).trans ?_
    rw [World.cell?_drew]
    exact c1
  rintro e u' w'' ⟨rfl, rfl, rfl⟩
  simp [Leaves, settle, results, Tryz.results47]
  exact ⟨w2, HR.out, rfl⟩
set_option maxRecDepth 100000 in
set_option maxHeartbeats 1600000 in
theorem once_do (v o : Nat) (pl : Addr) (w : World) (R : World → Prop) (h0 : w.cell? ⟨v, o, none⟩ = some (.int .u32 0)) (h1 : w.cell? ⟨v, o + 1, none⟩ = some (.int .i32 0)) (f1 : w.frozen? ⟨v, o + 1, none⟩ = false)
    (hf : Calls Tryz.prog 29 #[.pointer (some pl)] (w.setCell ⟨v, o + 1, none⟩ (.int .i32 1)) fun e w2 => e = .returned (.tuple #[]) ∧ R w2 ∧ w2.cell? ⟨v, o, none⟩ = some (.int .u32 0) ∧ w2.cell? ⟨v, o + 1, none⟩ = some (.int .i32 1) ∧ w2.frozen? ⟨v, o, none⟩ = false ∧ w2.frozen? ⟨v, o + 1, none⟩ = false) :
    Calls Tryz.prog 28 #[.pointer (some ⟨v, o, none⟩), .func (.func 29) #[] #[.pointer (some pl)]] w fun e w' => e = .returned (.tuple #[]) ∧ ∃ w2, R w2 ∧ w' = (w2.drew.setCell ⟨v, o, none⟩ (.int .u32 1)).setCell ⟨v, o + 1, none⟩ (.int .i32 0) := by
  have hnot : ∀ (x : Bool) (w : World), (Op.unary .not (.bool x)).run Tryz.prog w = .ok (.bool (!x)) w := fun _ _ => rfl
  have HF := hide hf
  clear hf
  go_enter Tryz.func28, Tryz.ntmps28
  go_wp2_with (first
    | (go_at_call 46; refine (load_zero ⟨v, o, none⟩ _ h0).mono ?_; rintro e w' ⟨rfl, rfl⟩)
    | (go_at_call 47; refine (slow_once v o pl _ R h0 h1 f1 HF.out).mono ?_; rintro e w2 ⟨rfl, hR⟩; have HR := hide hR; clear hR))
  go_end0
  exact ⟨rfl, HR.out⟩
end Go.Proofs.YtkbbnflblkkepaaGreatDoor

namespace Go.Proofs.YtkbbnflblkkepaaGreatDoor
set_option linter.unusedVariables false
set_option linter.unusedSimpArgs false
open Go.RowKit

/-- A fault stays where no cell near the beginning of a block turns. -/
theorem Flt.keepS {w w' : World} {lo : Nat} (hk : ∀ b o v, o < 10 → w.cell? ⟨b, o, none⟩ = some v → w'.cell? ⟨b, o, none⟩ = some v) : ∀ {n : Nat} {v : Value} {c : Int}, Flt w lo n v c → Flt w' lo n v c
  | 0, _, _, ⟨b, h, hl, hc⟩ => ⟨b, h, hl, hk _ _ _ (by omega) hc⟩
  | _ + 1, _, _, ⟨b, v', h, hl, hc, hr⟩ => ⟨b, v', h, hl, hk _ _ _ (by omega) hc, Flt.keepS hk hr⟩
theorem near_set {w : World} {g k : Nat} {u : Value} (hk : 10 ≤ k) : ∀ b o v, o < 10 → w.cell? ⟨b, o, none⟩ = some v → (w.setCell ⟨g, k, none⟩ u).cell? ⟨b, o, none⟩ = some v := fun b o v ho hc =>
  (World.cell?_setCell_other w ⟨g, k, none⟩ ⟨b, o, none⟩ u (by intro e; injection e with e1 e2; omega)).trans hc
theorem own_setM {w : World} {base g k n : Nat} {e : TypeId} {v u : Value} {xs : List Value} (h : w.ownsRow base e 1 v n xs) (hg : g < base) : (w.setCell ⟨g, k, none⟩ u).ownsRow base e 1 v n xs := by
  refine h.kept (row := some g) ⟨rfl, rfl, rfl, by simp [World.setCell], fun j hj hne => Below.heap_setCell w ⟨g, k, none⟩ u j (fun e => hne (by rw [e]))⟩ ?_
  cases hb : v.ownBlock with
  | none => exact .inl rfl
  | some j => exact .inr (fun e => by have := (h.lt j hb).1; injection e with e; omega)
theorem Blk.drewM {w : World} {b : Nat} {C : Array Value} {t : TypeId} (h : Blk w b C t) : Blk w.drew b C t := h
theorem own_drewM {w : World} {base n : Nat} {e : TypeId} {v : Value} {xs : List Value} (h : w.ownsRow base e 1 v n xs) : w.drew.ownsRow base e 1 v n xs := h
theorem cell_drewM {w : World} {a : Addr} {v : Value} (h : w.cell? a = some v) : w.drew.cell? a = some v := h
set_option maxRecDepth 100000 in
set_option maxHeartbeats 2000000 in
theorem mapWords_any (w0 w : World) (g : Nat) (C : Array Value) (img : Value) (zs : List Int) (s : Int) (ds : List Int) (p q : Int) (hl : Below w0.heap.size w0 w) (hg0 : w0.heap.size ≤ g) (hC : Blk w g C 76) (hCs : C.size = 79) (h0 : C[0]? = some img) (hr : ∀ j, j < 15 → C[23 + j]? = (cellsI (rootI s ds p q))[j]?)
    (h70 : C[70]? = some (.int .u32 0)) (h71 : C[71]? = some (.int .i32 0)) (h : Rd .u8 w0 img zs) (hz : zs.length ≤ 1048576) (hbd : ∀ z ∈ zs, 0 ≤ z ∧ z < 256) (hd : ds.length = 12) (hbl : (trB zs s ds p q).length ≤ 262144) (hbb : ∀ z ∈ trB zs s ds p q, 0 ≤ z ∧ z < 256) :
    Calls Tryz.prog 17 #[.pointer (some ⟨g, 0, none⟩)] w fun e w' => ∃ a n c ev, e = .returned (.tuple #[.slice a n c, ev]) ∧ ((trC zs s ds p q ≠ 0 ∧ ∃ m, Flt w' 0 m ev (trC zs s ds p q)) ∨ (trC zs s ds p q = 0 ∧ w'.ownsRow w.heap.size 3 1 (.slice a n c) (mwW zs s ds p q).length ((mwW zs s ds p q).map (Value.int .i64)) ∧ FaultIs w' 0 (rightM (mwW zs s ds p q)) ev 21)) ∧ Below w0.heap.size w0 w' := by
  have hgl := hC.lt
  obtain ⟨W1, hW1⟩ : ∃ W1, W1 = w.alloc (.cells #[.pointer (some ⟨g, 0, none⟩)] 42) := ⟨_, rfl⟩
  have B1 : Below w.heap.size w W1 := by rw [hW1]; exact (Below.refl _ _).alloc (Nat.le_refl _) _
  have K1 : Blk W1 w.heap.size #[.pointer (some ⟨g, 0, none⟩)] 42 := by rw [hW1]; exact Blk.new w _ _
  have C1 : Blk W1 g C 76 := hC.below B1 hgl
  have hs1 : w.heap.size < W1.heap.size := K1.lt
  have L1 : Below w0.heap.size w0 (W1.setCell ⟨g, 71, none⟩ (.int .i32 1)) := (hl.trans (B1.mono hl.size)).setCell (p := ⟨g, 71, none⟩) hg0 _
  have hne : w.heap.size ≠ g := by omega
  have hf := mapW1_any g w.heap.size (C.setIfInBounds 71 (.int .i32 1)) img zs s ds p q (W1.setCell ⟨g, 71, none⟩ (.int .i32 1)) hne (K1.other _ _ hne) (C1.set 71 _) (by rw [Array.size_setIfInBounds]; exact hCs) (by rw [Array.getElem?_setIfInBounds_ne (by omega)]; exact h0) (fun j hj => by rw [Array.getElem?_setIfInBounds_ne (by omega)]; exact hr j hj) (h.below L1) hz hbd hd hbl hbb
  obtain ⟨R, hR⟩ : ∃ R : World → Prop, R = fun w' => ∃ w2 a n c ev, Below W1.heap.size (W1.setCell ⟨g, 71, none⟩ (.int .i32 1)) w2 ∧ ((trC zs s ds p q ≠ 0 ∧ ∃ m, Flt w2 0 m ev (trC zs s ds p q)) ∨ (trC zs s ds p q = 0 ∧ w2.ownsRow W1.heap.size 3 1 (.slice a n c) (mwW zs s ds p q).length ((mwW zs s ds p q).map (Value.int .i64)) ∧ FaultIs w2 0 (rightM (mwW zs s ds p q)) ev 21)) ∧ w' = (w2.setCell ⟨g, 73, none⟩ (.slice a n c)).setCell ⟨g, 74, none⟩ ev := ⟨_, rfl⟩
  have hsz : (W1.setCell ⟨g, 71, none⟩ (.int .i32 1)).heap.size = W1.heap.size := by simp
  have HDo := hide (once_do g 70 ⟨w.heap.size, 0, none⟩ W1 R ((C1.cell 70).trans h70) ((C1.cell 71).trans h71) (C1.frozen 71) (hf.mono (by
    rintro e w' ⟨rfl, w2, a, n, c, ev, b2, hcase, rfl⟩
    rw [hsz] at b2 hcase
    have k2 : Blk w2 g (C.setIfInBounds 71 (.int .i32 1)) 76 := (C1.set 71 (.int .i32 1)).below b2 (by omega)
    have k3 := (k2.set 73 (.slice a n c)).set 74 ev
    refine ⟨rfl, by rw [hR]; exact ⟨w2, a, n, c, ev, b2, hcase, rfl⟩, (k3.cell 70).trans ?_, (k3.cell 71).trans ?_, k3.frozen 70, k3.frozen 71⟩
    · rw [Array.getElem?_setIfInBounds_ne (by omega), Array.getElem?_setIfInBounds_ne (by omega), Array.getElem?_setIfInBounds_ne (by omega)]
      exact h70
    · rw [Array.getElem?_setIfInBounds_ne (by omega), Array.getElem?_setIfInBounds_ne (by omega), Array.getElem?_setIfInBounds_self_of_lt (by omega)])))
  have HX := hide (And.intro C1 (And.intro K1 (And.intro hCs (And.intro L1 hg0))))
  have cp0 := (K1.cell 0).trans (show _ = some (.pointer (some ⟨g, 0, none⟩)) from rfl)
  have HW1 := hide hW1
  have HR := hide hR
  have HSz := hide hsz
  clear hW1 hR hf hsz C1 K1 L1 hC hr h h0 h70 h71 hCs hz hbd hd hbl hbb B1
  go_enter Tryz.func17, Tryz.ntmps17
  go_upto_region 1 with fail
  rw [← HW1.out]
  have hmf : ∀ (fn : Fn) (first cap : Array Value) (w : World), (Instr.makeFunc fn first cap).run Tryz.prog w = .ok (.func fn first cap) w := fun _ _ _ _ => rfl
  go_wp2_with (go_at_call 28; fail)
  refine HDo.out.mono ?_
  rintro e w3 ⟨rfl, w2', hRw, hw3⟩
  rw [HR.out] at hRw
  obtain ⟨w2, a, n, c, ev, b2, hcase, hw2⟩ := hRw
  have k2 : Blk w2 g (C.setIfInBounds 71 (.int .i32 1)) 76 := (HX.out.1.set 71 (.int .i32 1)).below b2 (by omega)
  have q2 : Blk w2 w.heap.size #[.pointer (some ⟨g, 0, none⟩)] 42 := (HX.out.2.1.other ⟨g, 71, none⟩ (.int .i32 1) hne).below b2 (by omega)
  have k3 : Blk w3 g (((((C.setIfInBounds 71 (.int .i32 1)).setIfInBounds 73 (.slice a n c)).setIfInBounds 74 ev).setIfInBounds 70 (.int .u32 1)).setIfInBounds 71 (.int .i32 0)) 76 := by
    rw [hw3, hw2]
    exact ((((k2.set 73 (.slice a n c)).set 74 ev).drewM).set 70 (.int .u32 1)).set 71 (.int .i32 0)
  have q3 : Blk w3 w.heap.size #[.pointer (some ⟨g, 0, none⟩)] 42 := by
    rw [hw3, hw2]
    exact ((((q2.other ⟨g, 73, none⟩ (.slice a n c) hne).other ⟨g, 74, none⟩ ev hne).drewM).other ⟨g, 70, none⟩ (.int .u32 1) hne).other ⟨g, 71, none⟩ (.int .i32 0) hne
  have HS3 := hide (show w3.cell? ⟨w.heap.size, 0, none⟩ = some (.pointer (some ⟨g, 0, none⟩)) ∧ w3.cell? ⟨g, 73, none⟩ = some (.slice a n c) ∧ w3.cell? ⟨g, 74, none⟩ = some ev from by
    refine ⟨(q3.cell 0).trans rfl, (k3.cell 73).trans ?_, (k3.cell 74).trans ?_⟩
    · rw [Array.getElem?_setIfInBounds_ne (by omega), Array.getElem?_setIfInBounds_ne (by omega), Array.getElem?_setIfInBounds_ne (by omega), Array.getElem?_setIfInBounds_self_of_lt (by have := HX.out.2.2.1; simp; omega)]
    · rw [Array.getElem?_setIfInBounds_ne (by omega), Array.getElem?_setIfInBounds_ne (by omega), Array.getElem?_setIfInBounds_self_of_lt (by have := HX.out.2.2.1; simp; omega)])
  have hnear : ∀ b o v, o < 10 → w2.cell? ⟨b, o, none⟩ = some v → w3.cell? ⟨b, o, none⟩ = some v := fun b o v ho hc => by
    rw [hw3, hw2]
    exact near_set (by omega) b o v ho (near_set (by omega) b o v ho (cell_drewM (near_set (by omega) b o v ho (near_set (by omega) b o v ho hc))))
  have HCs := hide (show ((trC zs s ds p q ≠ 0 ∧ ∃ m, Flt w3 0 m ev (trC zs s ds p q)) ∨ (trC zs s ds p q = 0 ∧ w3.ownsRow w.heap.size 3 1 (.slice a n c) (mwW zs s ds p q).length ((mwW zs s ds p q).map (Value.int .i64)) ∧ FaultIs w3 0 (rightM (mwW zs s ds p q)) ev 21)) from by
    rcases hcase with ⟨h1, m, h2⟩ | ⟨h1, h2, h3⟩
    · exact .inl ⟨h1, m, h2.keepS hnear⟩
    · refine .inr ⟨h1, ?_, ?_⟩
      · rw [hw3, hw2]
        have hx : g < W1.heap.size := by omega
        exact own_mono (own_setM (own_setM (own_drewM (own_setM (own_setM h2 hx) hx)) hx) hx) (Nat.le_of_lt hs1)
      · rcases h3 with h3 | ⟨h3, m, h4⟩
        · exact .inl h3
        · exact .inr ⟨h3, m, h4.keepS hnear⟩)
  have HL3 := hide (show Below w0.heap.size w0 w3 from by
    have hw1 : w0.heap.size ≤ W1.heap.size := Nat.le_trans hl.size (Nat.le_of_lt hs1)
    have hb2 : Below w0.heap.size w0 w2 := HX.out.2.2.2.1.trans (b2.mono hw1)
    rw [hw3, hw2]
    exact ((((hb2.setCell (p := ⟨g, 73, none⟩) hg0 _).setCell (p := ⟨g, 74, none⟩) hg0 _).drew.setCell (p := ⟨g, 70, none⟩) hg0 _).setCell (p := ⟨g, 71, none⟩) hg0 _))
  clear hcase hw3 hw2 b2 k2 q2 k3 q3 hnear cp0
  go_wp2_with fail
  refine wp_region_noPanic ?_
  refine wp_region_held_drew (S := fun w' => w'.cell? ⟨w.heap.size, 0, none⟩ = some (.pointer (some ⟨g, 0, none⟩)) ∧ w'.cell? ⟨g, 73, none⟩ = some (.slice a n c) ∧ w'.cell? ⟨g, 74, none⟩ = some ev) (by kernel_rfl) HS3.out (fun hH => ?_)
  refine wpAnyH_take (i := 0) (oi := _) (v := .pointer (some ⟨g, 0, none⟩)) rfl (by kernel_rfl) (by kernel_rfl) (by kernel_rfl) (fun _ _ _ h => h) (Or.inl ⟨by rfl, fun w' hw' => by obtain ⟨s1, s2, s3⟩ := hw'; go_simp⟩) hH ?_
  try simp only [Act.put, List.getElem_toArray, List.getElem_cons_zero, List.getElem_cons_succ, List.setIfInBounds_toArray, List.set_cons_zero, List.set_cons_succ]
  refine wpAnyH_take (i := 1) (oi := _) (v := .pointer (some ⟨g, 0, none⟩)) rfl (by kernel_rfl) (by kernel_rfl) (by kernel_rfl) (fun _ _ _ h => h) (Or.inl ⟨by rfl, fun w' hw' => by go_simp⟩) hH ?_
  try simp only [Act.put, List.getElem_toArray, List.getElem_cons_zero, List.getElem_cons_succ, List.setIfInBounds_toArray, List.set_cons_zero, List.set_cons_succ]
  refine wpAnyH_take (i := 2) (oi := _) (v := .pointer (some ⟨g, 73, none⟩)) rfl (by kernel_rfl) (by kernel_rfl) (by kernel_rfl) (fun _ _ _ h => h) (Or.inl ⟨by rfl, fun w' hw' => by go_simp⟩) hH ?_
  try simp only [Act.put, List.getElem_toArray, List.getElem_cons_zero, List.getElem_cons_succ, List.setIfInBounds_toArray, List.set_cons_zero, List.set_cons_succ]
  refine wpAnyH_take (i := 3) (oi := _) (v := .slice a n c) rfl (by kernel_rfl) (by kernel_rfl) (by kernel_rfl) (fun _ _ _ h => h) (Or.inl ⟨by rfl, fun w' hw' => by obtain ⟨s1, s2, s3⟩ := hw'; go_simp⟩) hH ?_
  try simp only [Act.put, List.getElem_toArray, List.getElem_cons_zero, List.getElem_cons_succ, List.setIfInBounds_toArray, List.set_cons_zero, List.set_cons_succ]
  refine wpAnyH_take (i := 4) (oi := _) (v := .pointer (some ⟨g, 0, none⟩)) rfl (by kernel_rfl) (by kernel_rfl) (by kernel_rfl) (fun _ _ _ h => h) (Or.inl ⟨by rfl, fun w' hw' => by obtain ⟨s1, s2, s3⟩ := hw'; go_simp⟩) hH ?_
  try simp only [Act.put, List.getElem_toArray, List.getElem_cons_zero, List.getElem_cons_succ, List.setIfInBounds_toArray, List.set_cons_zero, List.set_cons_succ]
  refine wpAnyH_take (i := 5) (oi := _) (v := .pointer (some ⟨g, 0, none⟩)) rfl (by kernel_rfl) (by kernel_rfl) (by kernel_rfl) (fun _ _ _ h => h) (Or.inl ⟨by rfl, fun w' hw' => by go_simp⟩) hH ?_
  try simp only [Act.put, List.getElem_toArray, List.getElem_cons_zero, List.getElem_cons_succ, List.setIfInBounds_toArray, List.set_cons_zero, List.set_cons_succ]
  refine wpAnyH_take (i := 6) (oi := _) (v := .pointer (some ⟨g, 74, none⟩)) rfl (by kernel_rfl) (by kernel_rfl) (by kernel_rfl) (fun _ _ _ h => h) (Or.inl ⟨by rfl, fun w' hw' => by go_simp⟩) hH ?_
  try simp only [Act.put, List.getElem_toArray, List.getElem_cons_zero, List.getElem_cons_succ, List.setIfInBounds_toArray, List.set_cons_zero, List.set_cons_succ]
  refine wpAnyH_take (i := 7) (oi := _) (v := ev) rfl (by kernel_rfl) (by kernel_rfl) (by kernel_rfl) (fun _ _ _ h => h) (Or.inl ⟨by rfl, fun w' hw' => by obtain ⟨s1, s2, s3⟩ := hw'; go_simp⟩) hH ?_
  try simp only [Act.put, List.getElem_toArray, List.getElem_cons_zero, List.getElem_cons_succ, List.setIfInBounds_toArray, List.set_cons_zero, List.set_cons_succ]
  refine wpAnyH_take (i := 8) (oi := _) (v := .slice a n c) rfl (by kernel_rfl) (by kernel_rfl) (by kernel_rfl) (fun _ _ _ h => h) (Or.inl ⟨by rfl, fun w' hw' => by go_simp⟩) hH ?_
  try simp only [Act.put, List.getElem_toArray, List.getElem_cons_zero, List.getElem_cons_succ, List.setIfInBounds_toArray, List.set_cons_zero, List.set_cons_succ]
  refine wpAnyH_take (i := 9) (oi := _) (v := ev) rfl (by kernel_rfl) (by kernel_rfl) (by kernel_rfl) (fun _ _ _ h => h) (Or.inl ⟨by rfl, fun w' hw' => by go_simp⟩) hH ?_
  try simp only [Act.put, List.getElem_toArray, List.getElem_cons_zero, List.getElem_cons_succ, List.setIfInBounds_toArray, List.set_cons_zero, List.set_cons_succ]
  refine wpAnyH_done (by kernel_rfl) (NoPanic.normal ?_) _
  clear hH
  go_wp2
  go_ret2
  refine ⟨a, n, c, ev, rfl, ?_, HL3.out.drew⟩
  rcases HCs.out with ⟨h1, m, h2⟩ | ⟨h1, h2, h3⟩
  · exact .inl ⟨h1, m, h2.below ((Below.refl _ _).drew)⟩
  · refine .inr ⟨h1, h2, ?_⟩
    rcases h3 with h3 | ⟨h3, m, h4⟩
    · exact .inl h3
    · exact .inr ⟨h3, m, h4.below ((Below.refl _ _).drew)⟩
end Go.Proofs.YtkbbnflblkkepaaGreatDoor

namespace Go.Proofs.YtkbbnflblkkepaaGreatDoor
set_option linter.unnecessarySimpa false
open Go.RowKit

set_option maxRecDepth 100000 in
set_option maxHeartbeats 1000000 in
theorem take_zero (w0 w : World) (b lo : Nat) (ok : Bool) (dv : Value) (zs : List Int) (pos : Nat) (h : Rdr w0 w b lo ok dv zs pos) (hp : 0 < pos) (hz : zs.length ≤ 140737488355328) :
    Calls Tryz.prog 92 #[.pointer (some ⟨b, 0, none⟩), .int .i64 0] w fun e w' => ∃ sv, e = .returned sv ∧ Took w0 w w' b lo ok dv zs pos 0 sv := by
  have hd := h.data
  have ha := h.at_
  have hl := h.le
  have hlt := h.ck.lt
  obtain ⟨bd, off, cap, rfl, hbd, hcl, hcm, hcell⟩ := h.read.partsC (by omega)
  have HP := hide (And.intro hcell hbd)
  have H := hide h
  unfold maxLen at hcm
  clear h hcell
  have HQ := hide (show decide ((0 : Int) ≤ IntKind.i64.wrap ((zs.length : Int) - (pos : Int))) = true from by rw [IntKind.wrap_i64]; simp; omega)
  go_enter Tryz.func92, Tryz.ntmps92
  go_wp2
  go_region_held (fun w' => w'.cell? ⟨b, 2, none⟩ = some (.slice (some ⟨bd, off, none⟩) zs.length cap) ∧ w'.cell? ⟨b, 3, none⟩ = some (.int .i64 pos)) (go_keep) ((go_at_call 50; refine (need_any b lo _ 21 ok (decide ((0 : Int) ≤ IntKind.i64.wrap ((zs.length : Int) - (pos : Int)))) _ (H.out.ck.below ((Below.refl _ _).drew)) H.out.lo1 H.out.lo2).mono ?_; rintro e w1 ⟨rfl, hc1, ht1⟩; have hd1 := (ht1.2.1 2 (by omega)).trans hd; have ha1 := (ht1.2.1 3 (by omega)).trans ha))
  rw [HQ.out, Bool.and_true] at hc1
  have ht1' : Tch b w w1 := (Tch.of_below hlt ((Below.refl _ _).drew)).trans ht1
  have R1 := hide (H.out.tch hc1 ht1')
  have G1 := hide ht1'.1
  have hf1 := R1.out.fr
  obtain ⟨c1, c2, ev, c3, c4⟩ := hc1
  clear ht1 ht1'
  rcases c4 with ⟨rfl, rfl⟩ | ⟨rfl, m, c4⟩
  · have k2 : (w1.setCell ⟨b, 3, none⟩ (.int .i64 (pos : Int))).cell? ⟨b, 2, none⟩ = some (.slice (some ⟨bd, off, none⟩) zs.length cap) := by
      rw [World.cell?_setCell_other _ _ _ _ (by intro e; injection e with e1 e2; omega)]; exact hd1
    have k3 : (w1.setCell ⟨b, 3, none⟩ (.int .i64 (pos : Int))).cell? ⟨b, 3, none⟩ = some (.int .i64 (pos : Int)) := World.cell?_setCell_same _ _ _ ha1
    go_wp2
    go_quiet (fail)
    go_wp2
    all_goals
      go_ret
      refine ⟨_, rfl, ?_, .inl ⟨rfl, by omega, by omega, ?_, ?_⟩⟩
      · exact ⟨G1.out.os, G1.out.tape, G1.out.output, by simpa using G1.out.size, fun k hk hne => (Below.heap_setCell w1 ⟨b, 3, none⟩ _ k (fun e => hne (by rw [e]))).trans (G1.out.block k hk hne)⟩
      · exact ⟨_, _, rfl, by simp, fun h => absurd (by simp) h, by simp, by unfold maxLen; omega⟩
      · have hm := R1.out.moved pos nq (by omega) (.int .i64 (pos : Int)) rfl
        first | exact hm | (simp [*]; done) | simpa [*] using hm
  · obtain ⟨t', x', rfl⟩ := c4.iface
    clear c4
    go_wp2
    go_ret
    exact ⟨_, rfl, G1.out, .inr ⟨fun h => (by cases h.1), rfl, R1.out⟩⟩

theorem take_nn (w0 w : World) (b lo : Nat) (ok : Bool) (dv : Value) (zs : List Int) (pos n : Nat) (x : Int) (hx : x = n) (h : Rdr w0 w b lo ok dv zs pos) (hn0 : 0 < n ∨ 0 < pos) (hn : n ≤ 4294967296) (hz : zs.length ≤ 140737488355328) :
    Calls Tryz.prog 92 #[.pointer (some ⟨b, 0, none⟩), .int .i64 x] w fun e w' => ∃ sv, e = .returned sv ∧ Took w0 w w' b lo ok dv zs pos n sv := by
  subst hx
  by_cases h0 : 0 < n
  · exact take_any w0 w b lo ok dv zs pos n h h0 hn hz
  · have e0 : n = 0 := by omega
    subst e0
    exact take_zero w0 w b lo ok dv zs pos h (by omega) hz

/-- What zeros leaves: a reader at the place told, with a fault where a byte up to there isn't 0; or a fault at once. -/
def Zd (w0 w w' : World) (b lo : Nat) (ok : Bool) (dv : Value) (zs : List Int) (pos at_ : Nat) : Prop :=
  w.grownBy w' (some b) ∧ ((ok = true ∧ at_ ≤ zs.length ∧ Rdr w0 w' b lo (((zs.drop pos).take (at_ - pos)).all (fun z => decide (z = 0))) dv zs at_) ∨ (¬ (ok = true ∧ at_ ≤ zs.length) ∧ Rdr w0 w' b lo false dv zs pos))

theorem all_take0 (ts : List Int) (k : Nat) (h : k < ts.length) : (ts.take (k + 1)).all (fun z => decide (z = 0)) = ((ts.take k).all (fun z => decide (z = 0)) && decide (ts.getD k 0 = 0)) := by
  rw [List.take_succ_eq_append_getElem h, List.all_append]
  simp [List.getD, h]

set_option maxRecDepth 100000 in
set_option maxHeartbeats 1000000 in
theorem zeros_any (w0 w : World) (b lo : Nat) (ok : Bool) (dv : Value) (zs : List Int) (pos at_ : Nat) (h : Rdr w0 w b lo ok dv zs pos) (hp : pos ≤ at_) (hn0 : 0 < at_) (hn : at_ ≤ 4294967296) (hz : zs.length ≤ 140737488355328) :
    Calls Tryz.prog 68 #[.pointer (some ⟨b, 0, none⟩), .int .i64 at_] w fun e w' => e = .returned (.tuple #[]) ∧ Zd w0 w w' b lo ok dv zs pos at_ := by
  have ha := h.at_
  have H := hide h
  clear h
  go_enter Tryz.func68, Tryz.ntmps68
  go_wp2_with fail
  refine (take_nn w0 _ b lo ok dv zs pos (at_ - pos) _ (by go_num) H.out (by omega) (by omega) hz).mono ?_
  rintro e w1 ⟨sv, rfl, hg, ht⟩
  rcases ht with ⟨hok, _, hle, hrd, hr⟩ | ⟨hno, rfl, hr⟩
  · rw [Int.toNat_natCast] at hrd hr
    rw [show pos + (at_ - pos) = at_ from by omega] at hr
    have hlen : ((zs.drop pos).take (at_ - pos)).length = at_ - pos := by simp; omega
    have HE := hide (show ∀ w2, w1.grownBy w2 (some b) → Rdr w0 w2 b lo (((zs.drop pos).take (at_ - pos)).all (fun z => decide (z = 0))) dv zs at_ → Zd w0 w w2 b lo ok dv zs pos at_ from
      fun w2 g2 r2 => ⟨grownBy_trans hg g2, .inl ⟨hok, by omega, r2⟩⟩)
    generalize (zs.drop pos).take (at_ - pos) = ts at hrd hlen HE
    generalize at_ - pos = m at hlen
    have HR := hide hr
    clear hg hok hle ha H hp hn0 hn
    subst hlen
    obtain ⟨a, cap, rfl, hm, hc, _⟩ := hrd
    have HC := hide hc
    clear hc
    unfold maxLen at hm
    clear hr
    go_wp2
    go_loopw [5, 15] (fun _ i wr => ∃ k : Nat, k ≤ ts.length ∧ i = .int .i64 k ∧ w1.grownBy wr (some b) ∧ Rdr w0 wr b lo ((ts.take k).all (fun z => decide (z = 0))) dv zs at_) (fun _ i _ => ts.length - (intOf i).toNat)
    case atStart => exact ⟨0, by omega, rfl, World.grownBy.refl _ _, HR.out⟩
    case round =>
      obtain ⟨k, hk, rfl, hgr, hrr⟩ := hrel
      have HK := hide (And.intro hgr hrr)
      clear hgr hrr HR
      by_cases hlt : k < ts.length
      · obtain ⟨bd, off, rfl, hbd, hcell⟩ := HC.out (fun e => by rw [e] at hlt; simp at hlt)
        have c1 : wr.cell? ⟨bd, off + k, none⟩ = some (.int .u8 (ts.getD k 0)) := (HK.out.2.old.cell (p := ⟨bd, off + k, none⟩) (by rw [← HK.out.2.size]; exact hbd)).trans (hcell k hlt)
        have HT := hide (all_take0 ts k hlt)
        clear hcell HC hbd
        generalize ts.getD k 0 = z at c1 HT
        go_wp2_with (go_at_call 50; fail)
        refine (need_any b lo _ 21 _ _ _ HK.out.2.ck HK.out.2.lo1 HK.out.2.lo2).mono ?_
        rintro e w2 ⟨rfl, hc2, ht2⟩
        have HW := hide (show w1.grownBy w2 (some b) ∧ Rdr w0 w2 b lo ((ts.take (k + 1)).all (fun z => decide (z = 0))) dv zs at_ from by
          rw [HT.out]
          exact ⟨grownBy_trans HK.out.1 ht2.1, HK.out.2.tch hc2 ht2⟩)
        clear hc2 ht2 c1
        go_wp2
        go_roundw
        case rel => exact ⟨k + 1, by omega, by go_num, HW.out.1, HW.out.2⟩
        case measure => simp [intOf]; omega
      · have ek : k = ts.length := by omega
        subst ek
        have HF := hide (HE.out wr HK.out.1 (by have h2 := HK.out.2; rw [List.take_of_length_le (Nat.le_refl _)] at h2; exact h2))
        clear hlt
        go_wp2
        go_end0
        exact ⟨rfl, HF.out⟩
  · have HE := hide (show Zd w0 w w1 b lo ok dv zs pos at_ from ⟨hg, .inr ⟨fun h => hno ⟨h.1, by omega, by omega⟩, hr⟩⟩)
    clear hr hg hno ha H
    go_wp2
    refine wp_loop_rounds 1 ?_
    rw [rounds_succ]
    go_wp2
    go_end0
    exact ⟨rfl, HE.out⟩

/-- What end leaves: no fault where none was, the bytes up to the place told are 0 and nothing lies behind it. -/
def Ed (w0 w w' : World) (b lo : Nat) (ok : Bool) (dv : Value) (zs : List Int) (pos at_ : Nat) : Prop :=
  w.grownBy w' (some b) ∧ ∃ p, Rdr w0 w' b lo (ok && (((zs.drop pos).take (at_ - pos)).all (fun z => decide (z = 0)) && decide (zs.length = at_))) dv zs p

set_option maxRecDepth 100000 in
set_option maxHeartbeats 1000000 in
theorem end_any (w0 w : World) (b lo : Nat) (ok : Bool) (dv : Value) (zs : List Int) (pos at_ : Nat) (h : Rdr w0 w b lo ok dv zs pos) (hp : pos ≤ at_) (hn0 : 0 < at_) (hn : at_ ≤ 4294967296) (hz : zs.length ≤ 140737488355328) :
    Calls Tryz.prog 38 #[.pointer (some ⟨b, 0, none⟩), .int .i64 at_] w fun e w' => e = .returned (.tuple #[]) ∧ Ed w0 w w' b lo ok dv zs pos at_ := by
  have H := hide h
  obtain ⟨a, cap, rfl⟩ : ∃ a cap, dv = .slice a zs.length cap := by obtain ⟨a, cap, h1, _⟩ := h.rd; exact ⟨a, cap, h1⟩
  clear h
  go_enter Tryz.func38, Tryz.ntmps38
  go_wp2_with fail
  refine (zeros_any w0 _ b lo ok _ zs pos at_ H.out hp hn0 hn hz).mono ?_
  rintro e w1 ⟨rfl, hg, hzd⟩
  obtain ⟨ok1, p1, hr, HE⟩ : ∃ ok1 p1, Rdr w0 w1 b lo ok1 (.slice a zs.length cap) zs p1 ∧ Hid ((ok1 && decide ((p1 : Int) = (zs.length : Int))) = (ok && (((zs.drop pos).take (at_ - pos)).all (fun z => decide (z = 0)) && decide (zs.length = at_)))) := by
    rcases hzd with ⟨rfl, hle, hr⟩ | ⟨hno, hr⟩
    · refine ⟨_, _, hr, ?_⟩
      show _ = _
      rw [Bool.true_and]
      congr 1
      rw [decide_eq_decide]
      omega
    · refine ⟨_, _, hr, ?_⟩
      show _ = _
      rw [Bool.false_and]
      cases ok with
      | false => rfl
      | true =>
        have : ¬ zs.length = at_ := fun e => hno ⟨rfl, by omega⟩
        simp [this]
  have HR := hide hr
  have HG := hide hg
  have hd1 := hr.data
  have ha1 := hr.at_
  have hlt1 := hr.ck.lt
  clear hr hg hzd H
  go_wp2
  go_region_held (fun w' => w'.cell? ⟨b, 2, none⟩ = some (.slice a zs.length cap) ∧ w'.cell? ⟨b, 3, none⟩ = some (.int .i64 p1)) (go_keep) ((go_at_call 50; refine (need_any b lo _ 21 ok1 _ _ (HR.out.ck.below ((Below.refl _ _).drew)) HR.out.lo1 HR.out.lo2).mono ?_; rintro e w2 ⟨rfl, hc2, ht2⟩; have hd2 := (ht2.2.1 2 (by omega)).trans hd1; have ha2 := (ht2.2.1 3 (by omega)).trans ha1))
  have ht2' : Tch b w1 w2 := (Tch.of_below hlt1 ((Below.refl _ _).drew)).trans ht2
  have HW := hide (show Ed w0 w w2 b lo ok (.slice a zs.length cap) zs pos at_ from by
    refine ⟨grownBy_trans HG.out ht2'.1, p1, ?_⟩
    rw [← HE]
    exact HR.out.tch hc2 ht2')
  clear hc2 ht2 ht2' hd2 ha2
  go_wp2
  go_end0
  exact ⟨rfl, HW.out⟩
end Go.Proofs.YtkbbnflblkkepaaGreatDoor
