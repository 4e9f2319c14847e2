/- The closure of mapWords: the words are read and stored beside the error. -/
import Derived.Test.YtkbbnflblkkepaaGreatDoorZm18
import Derived.Deep.RegionHeld3
import Derived.Deep.MidRow
namespace Go.Proofs.YtkbbnflblkkepaaGreatDoor
set_option linter.unusedVariables false
set_option linter.unusedSimpArgs false
open Go.RowKit

theorem infoRtM : (Tryz.prog.info? 34).map (·.size) = some 15 := by kernel_rfl
set_option maxRecDepth 100000 in
set_option maxHeartbeats 2000000 in
theorem mapW1_any (g pb : Nat) (C : Array Value) (img : Value) (zs : List Int) (s : Int) (ds : List Int) (p q : Int) (w : World) (hne : pb ≠ g) (hp : Blk w pb #[.pointer (some ⟨g, 0, none⟩)] 42) (hC : Blk w g C 76) (hCs : C.size = 79) (h0 : C[0]? = some img) (hr : ∀ j, j < 15 → C[23 + j]? = (cellsI (rootI s ds p q))[j]?)
    (h : Rd .u8 w img zs) (hz : zs.length ≤ 1048576) (hbd : ∀ z ∈ zs, 0 ≤ z ∧ z < 256) (hd : ds.length = 12) (hbl : (trB zs s ds p q).length ≤ 262144) (hbb : ∀ z ∈ trB zs s ds p q, 0 ≤ z ∧ z < 256) :
    Calls Tryz.prog 29 #[.pointer (some ⟨pb, 0, none⟩)] w fun e w' => e = .returned (.tuple #[]) ∧ ∃ w2 a n c ev, Below w.heap.size w w2 ∧ ((trC zs s ds p q ≠ 0 ∧ ∃ m, Flt w2 0 m ev (trC zs s ds p q)) ∨ (trC zs s ds p q = 0 ∧ w2.ownsRow w.heap.size 3 1 (.slice a n c) (mwW zs s ds p q).length ((mwW zs s ds p q).map (Value.int .i64)) ∧ FaultIs w2 0 (rightM (mwW zs s ds p q)) ev 21)) ∧ w' = (w2.setCell ⟨g, 73, none⟩ (.slice a n c)).setCell ⟨g, 74, none⟩ ev := by
  have HR := hide (And.intro h (And.intro hz (And.intro hbd (And.intro hd (And.intro hbl hbb)))))
  have HP := hide hp
  have HC := hide hC
  obtain ⟨RL, hRL⟩ : ∃ RL : List Value, RL = (rootI s ds p q).map (Value.int .i64) := ⟨_, rfl⟩
  have HRL := hide (show RL.length = 15 ∧ RL.toArray = cellsI (rootI s ds p q) from ⟨by rw [hRL, List.length_map]; exact rootI_len s ds p q hd, by rw [hRL]; rfl⟩)
  have HRg := hide (show ∀ w' : World, Blk w' g C 76 → w'.rangeAt g 23 RL from fun w' hw j v hv => by
    have hj : j < 15 := by
      rcases Nat.lt_or_ge j RL.length with h | h
      · rw [HRL.out.1] at h; exact h
      · rw [List.getElem?_eq_none h] at hv; cases hv
    rw [hw.cell (23 + j), hr j hj, ← HRL.out.2]
    simpa using hv)
  have HIn := hide (show (Tryz.prog.info? 34).map (·.size) = some RL.length from by rw [HRL.out.1]; exact infoRtM)
  have HS := hide (And.intro hCs h0)
  have hpl := hp.lt
  have hgl := hC.lt
  clear hp hC h hz hbd hd hbl hbb hr hRL hCs h0
  go_enter Tryz.func29, Tryz.ntmps29
  refine wp_region_noPanic ?_
  refine wp_region_held_drew (S := fun w' => Blk w' pb #[.pointer (some ⟨g, 0, none⟩)] 42 ∧ w'.cell? ⟨g, 0, none⟩ = some img ∧ w'.rangeAt g 23 RL) (by kernel_rfl) ⟨HP.out, (HC.out.cell 0).trans HS.out.2, HRg.out _ HC.out⟩ (fun hH => ?_)
  refine wpAnyH_take (i := 0) (oi := _) (v := .pointer (some ⟨g, 0, none⟩)) rfl (by kernel_rfl) (by kernel_rfl) (by kernel_rfl) (fun _ _ _ h => h) (Or.inl ⟨by rfl, fun w' hw' => by have s1 := (hw'.1.cell 0).trans (show _ = some (.pointer (some ⟨g, 0, none⟩)) from rfl); go_simp⟩) hH ?_
  try simp only [Act.put, List.getElem_toArray, List.getElem_cons_zero, List.getElem_cons_succ, List.setIfInBounds_toArray, List.set_cons_zero, List.set_cons_succ]
  refine wpAnyH_take (i := 1) (oi := _) (v := .pointer (some ⟨g, 0, none⟩)) rfl (by kernel_rfl) (by kernel_rfl) (by kernel_rfl) (fun _ _ _ h => h) (Or.inl ⟨by rfl, fun w' hw' => by have s1 := (hw'.1.cell 0).trans (show _ = some (.pointer (some ⟨g, 0, none⟩)) from rfl); go_simp⟩) hH ?_
  try simp only [Act.put, List.getElem_toArray, List.getElem_cons_zero, List.getElem_cons_succ, List.setIfInBounds_toArray, List.set_cons_zero, List.set_cons_succ]
  refine wpAnyH_take (i := 2) (oi := _) (v := .pointer (some ⟨g, 0, none⟩)) rfl (by kernel_rfl) (by kernel_rfl) (by kernel_rfl) (fun _ _ _ h => h) (Or.inl ⟨by rfl, fun w' hw' => by have s1 := (hw'.1.cell 0).trans (show _ = some (.pointer (some ⟨g, 0, none⟩)) from rfl); go_simp⟩) hH ?_
  try simp only [Act.put, List.getElem_toArray, List.getElem_cons_zero, List.getElem_cons_succ, List.setIfInBounds_toArray, List.set_cons_zero, List.set_cons_succ]
  refine wpAnyH_take (i := 3) (oi := _) (v := .pointer (some ⟨g, 0, none⟩)) rfl (by kernel_rfl) (by kernel_rfl) (by kernel_rfl) (fun _ _ _ h => h) (Or.inl ⟨by rfl, fun w' hw' => by go_simp⟩) hH ?_
  try simp only [Act.put, List.getElem_toArray, List.getElem_cons_zero, List.getElem_cons_succ, List.setIfInBounds_toArray, List.set_cons_zero, List.set_cons_succ]
  refine wpAnyH_take (i := 4) (oi := _) (v := .pointer (some ⟨g, 0, none⟩)) rfl (by kernel_rfl) (by kernel_rfl) (by kernel_rfl) (fun _ _ _ h => h) (Or.inl ⟨by rfl, fun w' hw' => by go_simp⟩) hH ?_
  try simp only [Act.put, List.getElem_toArray, List.getElem_cons_zero, List.getElem_cons_succ, List.setIfInBounds_toArray, List.set_cons_zero, List.set_cons_succ]
  refine wpAnyH_take (i := 5) (oi := _) (v := img) rfl (by kernel_rfl) (by kernel_rfl) (by kernel_rfl) (fun _ _ _ h => h) (Or.inl ⟨by rfl, fun w' hw' => by have s2 := hw'.2.1; go_simp⟩) hH ?_
  try simp only [Act.put, List.getElem_toArray, List.getElem_cons_zero, List.getElem_cons_succ, List.setIfInBounds_toArray, List.set_cons_zero, List.set_cons_succ]
  refine wpAnyH_take (i := 6) (oi := _) (v := .pointer (some ⟨g, 0, none⟩)) rfl (by kernel_rfl) (by kernel_rfl) (by kernel_rfl) (fun _ _ _ h => h) (Or.inl ⟨by rfl, fun w' hw' => by have s1 := (hw'.1.cell 0).trans (show _ = some (.pointer (some ⟨g, 0, none⟩)) from rfl); go_simp⟩) hH ?_
  try simp only [Act.put, List.getElem_toArray, List.getElem_cons_zero, List.getElem_cons_succ, List.setIfInBounds_toArray, List.set_cons_zero, List.set_cons_succ]
  refine wpAnyH_take (i := 7) (oi := _) (v := .pointer (some ⟨g, 0, none⟩)) rfl (by kernel_rfl) (by kernel_rfl) (by kernel_rfl) (fun _ _ _ h => h) (Or.inl ⟨by rfl, fun w' hw' => by go_simp⟩) hH ?_
  try simp only [Act.put, List.getElem_toArray, List.getElem_cons_zero, List.getElem_cons_succ, List.setIfInBounds_toArray, List.set_cons_zero, List.set_cons_succ]
  refine wpAnyH_take (i := 8) (oi := _) (v := .pointer (some ⟨g, 1, none⟩)) rfl (by kernel_rfl) (by kernel_rfl) (by kernel_rfl) (fun _ _ _ h => h) (Or.inl ⟨by rfl, fun w' hw' => by go_simp⟩) hH ?_
  try simp only [Act.put, List.getElem_toArray, List.getElem_cons_zero, List.getElem_cons_succ, List.setIfInBounds_toArray, List.set_cons_zero, List.set_cons_succ]
  refine wpAnyH_take (i := 9) (oi := _) (v := .pointer (some ⟨g, 23, none⟩)) rfl (by kernel_rfl) (by kernel_rfl) (by kernel_rfl) (fun _ _ _ h => h) (Or.inl ⟨by rfl, fun w' hw' => by go_simp⟩) hH ?_
  try simp only [Act.put, List.getElem_toArray, List.getElem_cons_zero, List.getElem_cons_succ, List.setIfInBounds_toArray, List.set_cons_zero, List.set_cons_succ]
  refine wpAnyH_take (i := 10) (oi := _) (v := .agg RL.toArray) rfl (by kernel_rfl) (by kernel_rfl) (by kernel_rfl) (fun _ _ _ h => h) (yieldsIf_load_mid (by rfl) 34 _ rfl g 23 rfl RL _ (fun w' h => h.2.2) Tryz.underlying34 rfl HIn.out) hH ?_
  try simp only [Act.put, List.getElem_toArray, List.getElem_cons_zero, List.getElem_cons_succ, List.setIfInBounds_toArray, List.set_cons_zero, List.set_cons_succ]
  refine wpAnyH_ready (rs := [11]) (by kernel_rfl) (by simp) ?_
  refine AllReadyH.cons (o := _) rfl (fun K hK => ?_) AllReadyH.nil
  go_simp
  rw [HRL.out.2]
  refine (readMap_any img zs s ds p q _ (HR.out.1.below ((Below.refl _ _).drew)) HR.out.2.1 HR.out.2.2.1 HR.out.2.2.2.1 HR.out.2.2.2.2.1 HR.out.2.2.2.2.2).mono ?_
  rintro e w2 ⟨ra, rn, rc, rev, rfl, hcase, b2⟩
  have HCs := hide hcase
  have B2 := hide (show Below w.heap.size w w2 from ((Below.refl _ _).drew).trans b2)
  clear hcase b2
  have C2 := hide (HC.out.below B2.out hgl)
  have P2 := hide (HP.out.below B2.out hpl)
  have hsh : rev = .nilIface ∨ ∃ t x, rev = .iface t (.pointer (some x)) := by
    rcases HCs.out with ⟨_, m, hf⟩ | ⟨_, _, hf⟩
    · obtain ⟨t', x', e⟩ := hf.iface
      exact .inr ⟨t', x', e⟩
    · rcases hf with ⟨_, e⟩ | ⟨_, m, hf⟩
      · exact .inl e
      · obtain ⟨t', x', e⟩ := hf.iface
        exact .inr ⟨t', x', e⟩
  rcases hsh with rfl | ⟨t9, x9, rfl⟩
  · refine hK.out _ _ ⟨P2.out, (C2.out.cell 0).trans HS.out.2, HRg.out _ C2.out⟩ (fun hH => ?_)
    clear hK K
    try simp only [Act.put, List.getElem_toArray, List.getElem_cons_zero, List.getElem_cons_succ, List.setIfInBounds_toArray, List.set_cons_zero, List.set_cons_succ]
    refine wpAnyH_take (i := 12) (oi := _) (v := .tuple #[.slice ra rn rc, .nilIface]) rfl (by kernel_rfl) (by kernel_rfl) (by kernel_rfl) (fun _ _ _ h => h) (Or.inl ⟨by rfl, fun w' hw' => by go_simp⟩) hH ?_
    try simp only [Act.put, List.getElem_toArray, List.getElem_cons_zero, List.getElem_cons_succ, List.setIfInBounds_toArray, List.set_cons_zero, List.set_cons_succ]
    refine wpAnyH_take (i := 13) (oi := _) (v := .slice ra rn rc) rfl (by kernel_rfl) (by kernel_rfl) (by kernel_rfl) (fun _ _ _ h => h) (Or.inl ⟨by rfl, fun w' hw' => by go_simp⟩) hH ?_
    try simp only [Act.put, List.getElem_toArray, List.getElem_cons_zero, List.getElem_cons_succ, List.setIfInBounds_toArray, List.set_cons_zero, List.set_cons_succ]
    refine wpAnyH_take (i := 14) (oi := _) (v := .nilIface) rfl (by kernel_rfl) (by kernel_rfl) (by kernel_rfl) (fun _ _ _ h => h) (Or.inl ⟨by rfl, fun w' hw' => by go_simp⟩) hH ?_
    try simp only [Act.put, List.getElem_toArray, List.getElem_cons_zero, List.getElem_cons_succ, List.setIfInBounds_toArray, List.set_cons_zero, List.set_cons_succ]
    refine wpAnyH_take (i := 15) (oi := _) (v := .pointer (some ⟨g, 0, none⟩)) rfl (by kernel_rfl) (by kernel_rfl) (by kernel_rfl) (fun _ _ _ h => h) (Or.inl ⟨by rfl, fun w' hw' => by go_simp⟩) hH ?_
    try simp only [Act.put, List.getElem_toArray, List.getElem_cons_zero, List.getElem_cons_succ, List.setIfInBounds_toArray, List.set_cons_zero, List.set_cons_succ]
    refine wpAnyH_take (i := 16) (oi := _) (v := .pointer (some ⟨g, 73, none⟩)) rfl (by kernel_rfl) (by kernel_rfl) (by kernel_rfl) (fun _ _ _ h => h) (Or.inl ⟨by rfl, fun w' hw' => by go_simp⟩) hH ?_
    try simp only [Act.put, List.getElem_toArray, List.getElem_cons_zero, List.getElem_cons_succ, List.setIfInBounds_toArray, List.set_cons_zero, List.set_cons_succ]
    have c73 : w2.cell? ⟨g, 73, none⟩ = some (C[73]'(by rw [HS.out.1]; omega)) := (C2.out.cell 73).trans (Array.getElem?_eq_getElem _)
    have f73 := C2.out.frozen 73
    refine wpAnyH_ready (rs := [17]) (by kernel_rfl) (by simp) ?_
    refine AllReadyH.cons (o := _) rfl (fun K hK => ?_) AllReadyH.nil
    go_simp
    have S3 : Blk (w2.setCell ⟨g, 73, none⟩ (.slice ra rn rc)) pb #[.pointer (some ⟨g, 0, none⟩)] 42 ∧ (w2.setCell ⟨g, 73, none⟩ (.slice ra rn rc)).cell? ⟨g, 0, none⟩ = some img ∧ (w2.setCell ⟨g, 73, none⟩ (.slice ra rn rc)).rangeAt g 23 RL := by
      refine ⟨P2.out.other _ _ hne, (World.cell?_setCell_other _ ⟨g, 73, none⟩ ⟨g, 0, none⟩ _ (by simp)).trans ((C2.out.cell 0).trans HS.out.2), fun j v hv => ?_⟩
      have hj : j < 15 := by
        rcases Nat.lt_or_ge j RL.length with h | h
        · rw [HRL.out.1] at h; exact h
        · rw [List.getElem?_eq_none h] at hv; cases hv
      exact (World.cell?_setCell_other _ ⟨g, 73, none⟩ ⟨g, 23 + j, none⟩ _ (by intro e; injection e with e1 e2; omega)).trans (HRg.out _ C2.out j v hv)
    refine hK.out _ _ S3 (fun hH => ?_)
    clear hK K S3
    try simp only [Act.put, List.getElem_toArray, List.getElem_cons_zero, List.getElem_cons_succ, List.setIfInBounds_toArray, List.set_cons_zero, List.set_cons_succ]
    have k3 := C2.out.set 73 (.slice ra rn rc)
    have c74 : (w2.setCell ⟨g, 73, none⟩ (.slice ra rn rc)).cell? ⟨g, 74, none⟩ = some (C[74]'(by rw [HS.out.1]; omega)) := (World.cell?_setCell_other _ ⟨g, 73, none⟩ ⟨g, 74, none⟩ _ (by simp)).trans ((C2.out.cell 74).trans (Array.getElem?_eq_getElem _))
    have f74 := k3.frozen 74
    clear c73 f73
    refine wpAnyH_take (i := 18) (oi := _) (v := .pointer (some ⟨g, 0, none⟩)) rfl (by kernel_rfl) (by kernel_rfl) (by kernel_rfl) (fun _ _ _ h => h) (Or.inl ⟨by rfl, fun w' hw' => by go_simp⟩) hH ?_
    try simp only [Act.put, List.getElem_toArray, List.getElem_cons_zero, List.getElem_cons_succ, List.setIfInBounds_toArray, List.set_cons_zero, List.set_cons_succ]
    refine wpAnyH_take (i := 19) (oi := _) (v := .pointer (some ⟨g, 74, none⟩)) rfl (by kernel_rfl) (by kernel_rfl) (by kernel_rfl) (fun _ _ _ h => h) (Or.inl ⟨by rfl, fun w' hw' => by go_simp⟩) hH ?_
    try simp only [Act.put, List.getElem_toArray, List.getElem_cons_zero, List.getElem_cons_succ, List.setIfInBounds_toArray, List.set_cons_zero, List.set_cons_succ]
    refine wpAnyH_ready (rs := [20]) (by kernel_rfl) (by simp) ?_
    refine AllReadyH.cons (o := _) rfl (fun K hK => ?_) AllReadyH.nil
    go_simp
    have S4 : Blk ((w2.setCell ⟨g, 73, none⟩ (.slice ra rn rc)).setCell ⟨g, 74, none⟩ .nilIface) pb #[.pointer (some ⟨g, 0, none⟩)] 42 ∧ ((w2.setCell ⟨g, 73, none⟩ (.slice ra rn rc)).setCell ⟨g, 74, none⟩ .nilIface).cell? ⟨g, 0, none⟩ = some img ∧ ((w2.setCell ⟨g, 73, none⟩ (.slice ra rn rc)).setCell ⟨g, 74, none⟩ .nilIface).rangeAt g 23 RL := by
      refine ⟨hH.1.other _ _ hne, (World.cell?_setCell_other _ ⟨g, 74, none⟩ ⟨g, 0, none⟩ _ (by simp)).trans hH.2.1, fun j v hv => ?_⟩
      have hj : j < 15 := by
        rcases Nat.lt_or_ge j RL.length with h | h
        · rw [HRL.out.1] at h; exact h
        · rw [List.getElem?_eq_none h] at hv; cases hv
      exact (World.cell?_setCell_other _ ⟨g, 74, none⟩ ⟨g, 23 + j, none⟩ _ (by intro e; injection e with e1 e2; omega)).trans (hH.2.2 j v hv)
    refine hK.out _ _ S4 (fun hH => ?_)
    clear hK K S4
    try simp only [Act.put, List.getElem_toArray, List.getElem_cons_zero, List.getElem_cons_succ, List.setIfInBounds_toArray, List.set_cons_zero, List.set_cons_succ]
    refine wpAnyH_done (by kernel_rfl) (NoPanic.normal ?_) _
    clear hH c74 f74 k3
    go_wp2
    go_end0
    exact ⟨rfl, w2, ra, rn, rc, .nilIface, B2.out, HCs.out, rfl⟩
  · refine hK.out _ _ ⟨P2.out, (C2.out.cell 0).trans HS.out.2, HRg.out _ C2.out⟩ (fun hH => ?_)
    clear hK K
    try simp only [Act.put, List.getElem_toArray, List.getElem_cons_zero, List.getElem_cons_succ, List.setIfInBounds_toArray, List.set_cons_zero, List.set_cons_succ]
    refine wpAnyH_take (i := 12) (oi := _) (v := .tuple #[.slice ra rn rc, (.iface t9 (.pointer (some x9)))]) rfl (by kernel_rfl) (by kernel_rfl) (by kernel_rfl) (fun _ _ _ h => h) (Or.inl ⟨by rfl, fun w' hw' => by go_simp⟩) hH ?_
    try simp only [Act.put, List.getElem_toArray, List.getElem_cons_zero, List.getElem_cons_succ, List.setIfInBounds_toArray, List.set_cons_zero, List.set_cons_succ]
    refine wpAnyH_take (i := 13) (oi := _) (v := .slice ra rn rc) rfl (by kernel_rfl) (by kernel_rfl) (by kernel_rfl) (fun _ _ _ h => h) (Or.inl ⟨by rfl, fun w' hw' => by go_simp⟩) hH ?_
    try simp only [Act.put, List.getElem_toArray, List.getElem_cons_zero, List.getElem_cons_succ, List.setIfInBounds_toArray, List.set_cons_zero, List.set_cons_succ]
    refine wpAnyH_take (i := 14) (oi := _) (v := (.iface t9 (.pointer (some x9)))) rfl (by kernel_rfl) (by kernel_rfl) (by kernel_rfl) (fun _ _ _ h => h) (Or.inl ⟨by rfl, fun w' hw' => by go_simp⟩) hH ?_
    try simp only [Act.put, List.getElem_toArray, List.getElem_cons_zero, List.getElem_cons_succ, List.setIfInBounds_toArray, List.set_cons_zero, List.set_cons_succ]
    refine wpAnyH_take (i := 15) (oi := _) (v := .pointer (some ⟨g, 0, none⟩)) rfl (by kernel_rfl) (by kernel_rfl) (by kernel_rfl) (fun _ _ _ h => h) (Or.inl ⟨by rfl, fun w' hw' => by go_simp⟩) hH ?_
    try simp only [Act.put, List.getElem_toArray, List.getElem_cons_zero, List.getElem_cons_succ, List.setIfInBounds_toArray, List.set_cons_zero, List.set_cons_succ]
    refine wpAnyH_take (i := 16) (oi := _) (v := .pointer (some ⟨g, 73, none⟩)) rfl (by kernel_rfl) (by kernel_rfl) (by kernel_rfl) (fun _ _ _ h => h) (Or.inl ⟨by rfl, fun w' hw' => by go_simp⟩) hH ?_
    try simp only [Act.put, List.getElem_toArray, List.getElem_cons_zero, List.getElem_cons_succ, List.setIfInBounds_toArray, List.set_cons_zero, List.set_cons_succ]
    have c73 : w2.cell? ⟨g, 73, none⟩ = some (C[73]'(by rw [HS.out.1]; omega)) := (C2.out.cell 73).trans (Array.getElem?_eq_getElem _)
    have f73 := C2.out.frozen 73
    refine wpAnyH_ready (rs := [17]) (by kernel_rfl) (by simp) ?_
    refine AllReadyH.cons (o := _) rfl (fun K hK => ?_) AllReadyH.nil
    go_simp
    have S3 : Blk (w2.setCell ⟨g, 73, none⟩ (.slice ra rn rc)) pb #[.pointer (some ⟨g, 0, none⟩)] 42 ∧ (w2.setCell ⟨g, 73, none⟩ (.slice ra rn rc)).cell? ⟨g, 0, none⟩ = some img ∧ (w2.setCell ⟨g, 73, none⟩ (.slice ra rn rc)).rangeAt g 23 RL := by
      refine ⟨P2.out.other _ _ hne, (World.cell?_setCell_other _ ⟨g, 73, none⟩ ⟨g, 0, none⟩ _ (by simp)).trans ((C2.out.cell 0).trans HS.out.2), fun j v hv => ?_⟩
      have hj : j < 15 := by
        rcases Nat.lt_or_ge j RL.length with h | h
        · rw [HRL.out.1] at h; exact h
        · rw [List.getElem?_eq_none h] at hv; cases hv
      exact (World.cell?_setCell_other _ ⟨g, 73, none⟩ ⟨g, 23 + j, none⟩ _ (by intro e; injection e with e1 e2; omega)).trans (HRg.out _ C2.out j v hv)
    refine hK.out _ _ S3 (fun hH => ?_)
    clear hK K S3
    try simp only [Act.put, List.getElem_toArray, List.getElem_cons_zero, List.getElem_cons_succ, List.setIfInBounds_toArray, List.set_cons_zero, List.set_cons_succ]
    have k3 := C2.out.set 73 (.slice ra rn rc)
    have c74 : (w2.setCell ⟨g, 73, none⟩ (.slice ra rn rc)).cell? ⟨g, 74, none⟩ = some (C[74]'(by rw [HS.out.1]; omega)) := (World.cell?_setCell_other _ ⟨g, 73, none⟩ ⟨g, 74, none⟩ _ (by simp)).trans ((C2.out.cell 74).trans (Array.getElem?_eq_getElem _))
    have f74 := k3.frozen 74
    clear c73 f73
    refine wpAnyH_take (i := 18) (oi := _) (v := .pointer (some ⟨g, 0, none⟩)) rfl (by kernel_rfl) (by kernel_rfl) (by kernel_rfl) (fun _ _ _ h => h) (Or.inl ⟨by rfl, fun w' hw' => by go_simp⟩) hH ?_
    try simp only [Act.put, List.getElem_toArray, List.getElem_cons_zero, List.getElem_cons_succ, List.setIfInBounds_toArray, List.set_cons_zero, List.set_cons_succ]
    refine wpAnyH_take (i := 19) (oi := _) (v := .pointer (some ⟨g, 74, none⟩)) rfl (by kernel_rfl) (by kernel_rfl) (by kernel_rfl) (fun _ _ _ h => h) (Or.inl ⟨by rfl, fun w' hw' => by go_simp⟩) hH ?_
    try simp only [Act.put, List.getElem_toArray, List.getElem_cons_zero, List.getElem_cons_succ, List.setIfInBounds_toArray, List.set_cons_zero, List.set_cons_succ]
    refine wpAnyH_ready (rs := [20]) (by kernel_rfl) (by simp) ?_
    refine AllReadyH.cons (o := _) rfl (fun K hK => ?_) AllReadyH.nil
    go_simp
    have S4 : Blk ((w2.setCell ⟨g, 73, none⟩ (.slice ra rn rc)).setCell ⟨g, 74, none⟩ (.iface t9 (.pointer (some x9)))) pb #[.pointer (some ⟨g, 0, none⟩)] 42 ∧ ((w2.setCell ⟨g, 73, none⟩ (.slice ra rn rc)).setCell ⟨g, 74, none⟩ (.iface t9 (.pointer (some x9)))).cell? ⟨g, 0, none⟩ = some img ∧ ((w2.setCell ⟨g, 73, none⟩ (.slice ra rn rc)).setCell ⟨g, 74, none⟩ (.iface t9 (.pointer (some x9)))).rangeAt g 23 RL := by
      refine ⟨hH.1.other _ _ hne, (World.cell?_setCell_other _ ⟨g, 74, none⟩ ⟨g, 0, none⟩ _ (by simp)).trans hH.2.1, fun j v hv => ?_⟩
      have hj : j < 15 := by
        rcases Nat.lt_or_ge j RL.length with h | h
        · rw [HRL.out.1] at h; exact h
        · rw [List.getElem?_eq_none h] at hv; cases hv
      exact (World.cell?_setCell_other _ ⟨g, 74, none⟩ ⟨g, 23 + j, none⟩ _ (by intro e; injection e with e1 e2; omega)).trans (hH.2.2 j v hv)
    refine hK.out _ _ S4 (fun hH => ?_)
    clear hK K S4
    try simp only [Act.put, List.getElem_toArray, List.getElem_cons_zero, List.getElem_cons_succ, List.setIfInBounds_toArray, List.set_cons_zero, List.set_cons_succ]
    refine wpAnyH_done (by kernel_rfl) (NoPanic.normal ?_) _
    clear hH c74 f74 k3
    go_wp2
    go_end0
    exact ⟨rfl, w2, ra, rn, rc, (.iface t9 (.pointer (some x9))), B2.out, HCs.out, rfl⟩
end Go.Proofs.YtkbbnflblkkepaaGreatDoor
