/- What an operation's kind names: L15Named. -/
import Derived.Test.YtohmjfagbhnieaaGreatDoorZl06
namespace Go.Proofs.YtohmjfagbhnieaaGreatDoor
set_option linter.unusedVariables false
set_option linter.unusedSimpArgs false
open Go.RowKit

theorem Kept.slice {A B A' B' : Int} {q q' : ByteArray} {va : Option Addr} {vn vc : Nat} {v' : Value} (h : Kept A B q (.slice va vn vc) A' B' q' v') : ∃ a n c, v' = .slice a n c := by
  rcases h.2.2.2 with rfl | rfl
  · exact ⟨_, _, _, rfl⟩
  · exact ⟨_, _, _, rfl⟩
theorem opC_one1 (K A B U G : Int) (p q : ByteArray) (a : Option Addr) (n c : Nat) : (opC K A B U G p q (.slice a n c)).all (·.oneCell') = true := by
  unfold opC
  simp [Value.oneCell']
def zeroOp : Array Value := opC 0 0 0 0 0 ⟨#[]⟩ ⟨#[]⟩ (.slice none 0 0)
set_option maxRecDepth 100000 in
set_option maxHeartbeats 8000000 in
theorem named15 (K A B U G : Int) (p q : ByteArray) (va : Option Addr) (vn vc : Nat) (w : World) (h0 : 1 ≤ K) (h1 : K ≤ 17) :
    Calls Tryz.prog 7 #[.agg (opC K A B U G p q (.slice va vn vc))] w fun e w' => ∃ (A' B' : Int) (q' : ByteArray) (v' : Value), e = .returned (.agg (opC K A' B' 0 0 p q' v')) ∧ Kept A B q (.slice va vn vc) A' B' q' v' ∧ Below w.heap.size w w' := by
  have HC := hide (named12 K A B U G p q va vn vc)
  rcases kind17 h0 h1 with rfl | rfl | rfl | rfl | rfl | rfl | rfl | rfl | rfl | rfl | rfl | rfl | rfl | rfl | rfl | rfl | rfl
  · clear h0 h1
    unfold opC at HC ⊢
    go_enter Tryz.func7, Tryz.ntmps7
    go_wp2_with fail
    refine (HC.out _ (by omega) (by omega)).mono ?_
    rintro e w1 ⟨A', B', q', v', rfl, hk, hb⟩
    obtain ⟨a', n', c', rfl⟩ := hk.slice
    have KB := hide (show Blk w1 w.heap.size _ 30 from ((Blk.new w (opC 1 A B U G p q (.slice va vn vc)) 30).alloc _).below hb (by simp <;> omega))
    have KR := hide (show Blk w1 (w.heap.size + 1) zeroOp 30 from by
      have h : Blk _ _ _ _ := (Blk.new (w.alloc (.cells (opC 1 A B U G p q (.slice va vn vc)) 30)) zeroOp 30).below hb (by simp)
      rw [show (w.alloc (.cells (opC 1 A B U G p q (.slice va vn vc)) 30)).heap.size = w.heap.size + 1 by simp] at h
      exact h)
    have hsz : w.heap.size + 2 ≤ w1.heap.size := by have := hb.size; simp at this; omega
    have hlt1 : w.heap.size < w1.heap.size := by omega
    have hne1 : w.heap.size ≠ w1.heap.size := by omega
    have hne2 : w.heap.size + 1 ≠ w1.heap.size := by omega
    have c0 := (KB.out.cell 0).trans (show _ = some (.int .i64 1) from rfl)
    have c1 := (KB.out.cell 1).trans (show _ = some (.int .i64 A) from rfl)
    have c2 := (KB.out.cell 2).trans (show _ = some (.int .i64 B) from rfl)
    have HB := hide (show Below w.heap.size w w1 from (((Below.refl _ _).alloc (Nat.le_refl _) _).alloc (by simp) _).trans (hb.mono (by simp; omega)))
    have HK := hide hk
    have KX := hide (show ∀ o : Obj, (w1.alloc o).heap[w.heap.size + 1]? = some (.cells zeroOp 30) from fun o => KR.out.alloc o)
    clear hb hk KB KR
    have HC1 := hide (opC_one1 1 A' B' 0 0 p q' a' n' c')
    go_wp2_with (first | (refine wpList_store_row rfl 30 _ _ rfl (w.heap.size + 1) (opC 1 A' B' 0 0 p q' (.slice a' n' c')) rfl rfl 30 zeroOp (KX.out _) infoO8 rfl HC1.out ?_) | fail)
    refine bodyPost_ret (v := .agg (opC 1 A' B' 0 0 p q' (.slice a' n' c'))) ?_ rfl ⟨_, _, _, _, rfl, ⟨HK.out.1, HK.out.2.1, HK.out.2.2⟩, below_setRow (HB.out.alloc (by omega) _) (by omega) _⟩
    exact results_cell_row rfl _ _ (w.heap.size + 1) 30 _ (0, 0) _ rfl ((show Blk _ _ _ _ from KX.out _).row _) Tryz.underlying30 rfl infoO8
  · clear h0 h1
    unfold opC at HC ⊢
    go_enter Tryz.func7, Tryz.ntmps7
    go_wp2_with fail
    refine (HC.out _ (by omega) (by omega)).mono ?_
    rintro e w1 ⟨A', B', q', v', rfl, hk, hb⟩
    obtain ⟨a', n', c', rfl⟩ := hk.slice
    have KB := hide (show Blk w1 w.heap.size _ 30 from ((Blk.new w (opC 2 A B U G p q (.slice va vn vc)) 30).alloc _).below hb (by simp <;> omega))
    have KR := hide (show Blk w1 (w.heap.size + 1) zeroOp 30 from by
      have h : Blk _ _ _ _ := (Blk.new (w.alloc (.cells (opC 2 A B U G p q (.slice va vn vc)) 30)) zeroOp 30).below hb (by simp)
      rw [show (w.alloc (.cells (opC 2 A B U G p q (.slice va vn vc)) 30)).heap.size = w.heap.size + 1 by simp] at h
      exact h)
    have hsz : w.heap.size + 2 ≤ w1.heap.size := by have := hb.size; simp at this; omega
    have hlt1 : w.heap.size < w1.heap.size := by omega
    have hne1 : w.heap.size ≠ w1.heap.size := by omega
    have hne2 : w.heap.size + 1 ≠ w1.heap.size := by omega
    have c0 := (KB.out.cell 0).trans (show _ = some (.int .i64 2) from rfl)
    have c1 := (KB.out.cell 1).trans (show _ = some (.int .i64 A) from rfl)
    have c2 := (KB.out.cell 2).trans (show _ = some (.int .i64 B) from rfl)
    have HB := hide (show Below w.heap.size w w1 from (((Below.refl _ _).alloc (Nat.le_refl _) _).alloc (by simp) _).trans (hb.mono (by simp; omega)))
    have HK := hide hk
    have KX := hide (show ∀ o : Obj, (w1.alloc o).heap[w.heap.size + 1]? = some (.cells zeroOp 30) from fun o => KR.out.alloc o)
    clear hb hk KB KR
    have HC1 := hide (opC_one1 2 A' B' 0 0 p q' a' n' c')
    go_wp2_with (first | (refine wpList_store_row rfl 30 _ _ rfl (w.heap.size + 1) (opC 2 A' B' 0 0 p q' (.slice a' n' c')) rfl rfl 30 zeroOp (KX.out _) infoO8 rfl HC1.out ?_) | fail)
    refine bodyPost_ret (v := .agg (opC 2 A' B' 0 0 p q' (.slice a' n' c'))) ?_ rfl ⟨_, _, _, _, rfl, ⟨HK.out.1, HK.out.2.1, HK.out.2.2⟩, below_setRow (HB.out.alloc (by omega) _) (by omega) _⟩
    exact results_cell_row rfl _ _ (w.heap.size + 1) 30 _ (0, 0) _ rfl ((show Blk _ _ _ _ from KX.out _).row _) Tryz.underlying30 rfl infoO8
  · clear h0 h1
    unfold opC at HC ⊢
    go_enter Tryz.func7, Tryz.ntmps7
    go_wp2_with fail
    refine (HC.out _ (by omega) (by omega)).mono ?_
    rintro e w1 ⟨A', B', q', v', rfl, hk, hb⟩
    obtain ⟨a', n', c', rfl⟩ := hk.slice
    have KB := hide (show Blk w1 w.heap.size _ 30 from ((Blk.new w (opC 3 A B U G p q (.slice va vn vc)) 30).alloc _).below hb (by simp <;> omega))
    have KR := hide (show Blk w1 (w.heap.size + 1) zeroOp 30 from by
      have h : Blk _ _ _ _ := (Blk.new (w.alloc (.cells (opC 3 A B U G p q (.slice va vn vc)) 30)) zeroOp 30).below hb (by simp)
      rw [show (w.alloc (.cells (opC 3 A B U G p q (.slice va vn vc)) 30)).heap.size = w.heap.size + 1 by simp] at h
      exact h)
    have hsz : w.heap.size + 2 ≤ w1.heap.size := by have := hb.size; simp at this; omega
    have hlt1 : w.heap.size < w1.heap.size := by omega
    have hne1 : w.heap.size ≠ w1.heap.size := by omega
    have hne2 : w.heap.size + 1 ≠ w1.heap.size := by omega
    have c0 := (KB.out.cell 0).trans (show _ = some (.int .i64 3) from rfl)
    have c1 := (KB.out.cell 1).trans (show _ = some (.int .i64 A) from rfl)
    have c2 := (KB.out.cell 2).trans (show _ = some (.int .i64 B) from rfl)
    have HB := hide (show Below w.heap.size w w1 from (((Below.refl _ _).alloc (Nat.le_refl _) _).alloc (by simp) _).trans (hb.mono (by simp; omega)))
    have HK := hide hk
    have KX := hide (show ∀ o : Obj, (w1.alloc o).heap[w.heap.size + 1]? = some (.cells zeroOp 30) from fun o => KR.out.alloc o)
    clear hb hk KB KR
    have HC1 := hide (opC_one1 3 A' B' 0 0 p q' a' n' c')
    go_wp2_with (first | (refine wpList_store_row rfl 30 _ _ rfl (w.heap.size + 1) (opC 3 A' B' 0 0 p q' (.slice a' n' c')) rfl rfl 30 zeroOp (KX.out _) infoO8 rfl HC1.out ?_) | fail)
    refine bodyPost_ret (v := .agg (opC 3 A' B' 0 0 p q' (.slice a' n' c'))) ?_ rfl ⟨_, _, _, _, rfl, ⟨HK.out.1, HK.out.2.1, HK.out.2.2⟩, below_setRow (HB.out.alloc (by omega) _) (by omega) _⟩
    exact results_cell_row rfl _ _ (w.heap.size + 1) 30 _ (0, 0) _ rfl ((show Blk _ _ _ _ from KX.out _).row _) Tryz.underlying30 rfl infoO8
  · clear h0 h1
    unfold opC at HC ⊢
    go_enter Tryz.func7, Tryz.ntmps7
    go_wp2_with fail
    refine (HC.out _ (by omega) (by omega)).mono ?_
    rintro e w1 ⟨A', B', q', v', rfl, hk, hb⟩
    obtain ⟨a', n', c', rfl⟩ := hk.slice
    have KB := hide (show Blk w1 w.heap.size _ 30 from ((Blk.new w (opC 4 A B U G p q (.slice va vn vc)) 30).alloc _).below hb (by simp <;> omega))
    have KR := hide (show Blk w1 (w.heap.size + 1) zeroOp 30 from by
      have h : Blk _ _ _ _ := (Blk.new (w.alloc (.cells (opC 4 A B U G p q (.slice va vn vc)) 30)) zeroOp 30).below hb (by simp)
      rw [show (w.alloc (.cells (opC 4 A B U G p q (.slice va vn vc)) 30)).heap.size = w.heap.size + 1 by simp] at h
      exact h)
    have hsz : w.heap.size + 2 ≤ w1.heap.size := by have := hb.size; simp at this; omega
    have hlt1 : w.heap.size < w1.heap.size := by omega
    have hne1 : w.heap.size ≠ w1.heap.size := by omega
    have hne2 : w.heap.size + 1 ≠ w1.heap.size := by omega
    have c0 := (KB.out.cell 0).trans (show _ = some (.int .i64 4) from rfl)
    have c1 := (KB.out.cell 1).trans (show _ = some (.int .i64 A) from rfl)
    have c2 := (KB.out.cell 2).trans (show _ = some (.int .i64 B) from rfl)
    have HB := hide (show Below w.heap.size w w1 from (((Below.refl _ _).alloc (Nat.le_refl _) _).alloc (by simp) _).trans (hb.mono (by simp; omega)))
    have HK := hide hk
    have KX := hide (show ∀ o : Obj, (w1.alloc o).heap[w.heap.size + 1]? = some (.cells zeroOp 30) from fun o => KR.out.alloc o)
    clear hb hk KB KR
    have HC1 := hide (opC_one1 4 A' B' 0 0 p q' a' n' c')
    go_wp2_with (first | (refine wpList_store_row rfl 30 _ _ rfl (w.heap.size + 1) (opC 4 A' B' 0 0 p q' (.slice a' n' c')) rfl rfl 30 zeroOp (KX.out _) infoO8 rfl HC1.out ?_) | fail)
    refine bodyPost_ret (v := .agg (opC 4 A' B' 0 0 p q' (.slice a' n' c'))) ?_ rfl ⟨_, _, _, _, rfl, ⟨HK.out.1, HK.out.2.1, HK.out.2.2⟩, below_setRow (HB.out.alloc (by omega) _) (by omega) _⟩
    exact results_cell_row rfl _ _ (w.heap.size + 1) 30 _ (0, 0) _ rfl ((show Blk _ _ _ _ from KX.out _).row _) Tryz.underlying30 rfl infoO8
  · clear h0 h1
    unfold opC at HC ⊢
    go_enter Tryz.func7, Tryz.ntmps7
    go_wp2_with fail
    refine (HC.out _ (by omega) (by omega)).mono ?_
    rintro e w1 ⟨A', B', q', v', rfl, hk, hb⟩
    obtain ⟨a', n', c', rfl⟩ := hk.slice
    have KB := hide (show Blk w1 w.heap.size _ 30 from ((Blk.new w (opC 5 A B U G p q (.slice va vn vc)) 30).alloc _).below hb (by simp <;> omega))
    have KR := hide (show Blk w1 (w.heap.size + 1) zeroOp 30 from by
      have h : Blk _ _ _ _ := (Blk.new (w.alloc (.cells (opC 5 A B U G p q (.slice va vn vc)) 30)) zeroOp 30).below hb (by simp)
      rw [show (w.alloc (.cells (opC 5 A B U G p q (.slice va vn vc)) 30)).heap.size = w.heap.size + 1 by simp] at h
      exact h)
    have hsz : w.heap.size + 2 ≤ w1.heap.size := by have := hb.size; simp at this; omega
    have hlt1 : w.heap.size < w1.heap.size := by omega
    have hne1 : w.heap.size ≠ w1.heap.size := by omega
    have hne2 : w.heap.size + 1 ≠ w1.heap.size := by omega
    have c0 := (KB.out.cell 0).trans (show _ = some (.int .i64 5) from rfl)
    have c1 := (KB.out.cell 1).trans (show _ = some (.int .i64 A) from rfl)
    have c2 := (KB.out.cell 2).trans (show _ = some (.int .i64 B) from rfl)
    have HB := hide (show Below w.heap.size w w1 from (((Below.refl _ _).alloc (Nat.le_refl _) _).alloc (by simp) _).trans (hb.mono (by simp; omega)))
    have HK := hide hk
    have KX := hide (show ∀ o : Obj, (w1.alloc o).heap[w.heap.size + 1]? = some (.cells zeroOp 30) from fun o => KR.out.alloc o)
    clear hb hk KB KR
    have HC1 := hide (opC_one1 5 A' B' 0 0 p q' a' n' c')
    go_wp2_with (first | (refine wpList_store_row rfl 30 _ _ rfl (w.heap.size + 1) (opC 5 A' B' 0 0 p q' (.slice a' n' c')) rfl rfl 30 zeroOp (KX.out _) infoO8 rfl HC1.out ?_) | fail)
    refine bodyPost_ret (v := .agg (opC 5 A' B' 0 0 p q' (.slice a' n' c'))) ?_ rfl ⟨_, _, _, _, rfl, ⟨HK.out.1, HK.out.2.1, HK.out.2.2⟩, below_setRow (HB.out.alloc (by omega) _) (by omega) _⟩
    exact results_cell_row rfl _ _ (w.heap.size + 1) 30 _ (0, 0) _ rfl ((show Blk _ _ _ _ from KX.out _).row _) Tryz.underlying30 rfl infoO8
  · clear h0 h1
    unfold opC at HC ⊢
    go_enter Tryz.func7, Tryz.ntmps7
    go_wp2_with fail
    refine (HC.out _ (by omega) (by omega)).mono ?_
    rintro e w1 ⟨A', B', q', v', rfl, hk, hb⟩
    obtain ⟨a', n', c', rfl⟩ := hk.slice
    have KB := hide (show Blk w1 w.heap.size _ 30 from ((Blk.new w (opC 6 A B U G p q (.slice va vn vc)) 30).alloc _).below hb (by simp <;> omega))
    have KR := hide (show Blk w1 (w.heap.size + 1) zeroOp 30 from by
      have h : Blk _ _ _ _ := (Blk.new (w.alloc (.cells (opC 6 A B U G p q (.slice va vn vc)) 30)) zeroOp 30).below hb (by simp)
      rw [show (w.alloc (.cells (opC 6 A B U G p q (.slice va vn vc)) 30)).heap.size = w.heap.size + 1 by simp] at h
      exact h)
    have hsz : w.heap.size + 2 ≤ w1.heap.size := by have := hb.size; simp at this; omega
    have hlt1 : w.heap.size < w1.heap.size := by omega
    have hne1 : w.heap.size ≠ w1.heap.size := by omega
    have hne2 : w.heap.size + 1 ≠ w1.heap.size := by omega
    have c0 := (KB.out.cell 0).trans (show _ = some (.int .i64 6) from rfl)
    have c1 := (KB.out.cell 1).trans (show _ = some (.int .i64 A) from rfl)
    have c2 := (KB.out.cell 2).trans (show _ = some (.int .i64 B) from rfl)
    have HB := hide (show Below w.heap.size w w1 from (((Below.refl _ _).alloc (Nat.le_refl _) _).alloc (by simp) _).trans (hb.mono (by simp; omega)))
    have HK := hide hk
    have KX := hide (show ∀ o : Obj, (w1.alloc o).heap[w.heap.size + 1]? = some (.cells zeroOp 30) from fun o => KR.out.alloc o)
    clear hb hk KB KR
    have HC1 := hide (opC_one1 6 A' B' 0 0 p q' a' n' c')
    go_wp2_with (first | (refine wpList_store_row rfl 30 _ _ rfl (w.heap.size + 1) (opC 6 A' B' 0 0 p q' (.slice a' n' c')) rfl rfl 30 zeroOp (KX.out _) infoO8 rfl HC1.out ?_) | fail)
    refine bodyPost_ret (v := .agg (opC 6 A' B' 0 0 p q' (.slice a' n' c'))) ?_ rfl ⟨_, _, _, _, rfl, ⟨HK.out.1, HK.out.2.1, HK.out.2.2⟩, below_setRow (HB.out.alloc (by omega) _) (by omega) _⟩
    exact results_cell_row rfl _ _ (w.heap.size + 1) 30 _ (0, 0) _ rfl ((show Blk _ _ _ _ from KX.out _).row _) Tryz.underlying30 rfl infoO8
  · clear h0 h1
    unfold opC at HC ⊢
    go_enter Tryz.func7, Tryz.ntmps7
    go_wp2_with fail
    refine (HC.out _ (by omega) (by omega)).mono ?_
    rintro e w1 ⟨A', B', q', v', rfl, hk, hb⟩
    obtain ⟨a', n', c', rfl⟩ := hk.slice
    have KB := hide (show Blk w1 w.heap.size _ 30 from ((Blk.new w (opC 7 A B U G p q (.slice va vn vc)) 30).alloc _).below hb (by simp <;> omega))
    have KR := hide (show Blk w1 (w.heap.size + 1) zeroOp 30 from by
      have h : Blk _ _ _ _ := (Blk.new (w.alloc (.cells (opC 7 A B U G p q (.slice va vn vc)) 30)) zeroOp 30).below hb (by simp)
      rw [show (w.alloc (.cells (opC 7 A B U G p q (.slice va vn vc)) 30)).heap.size = w.heap.size + 1 by simp] at h
      exact h)
    have hsz : w.heap.size + 2 ≤ w1.heap.size := by have := hb.size; simp at this; omega
    have hlt1 : w.heap.size < w1.heap.size := by omega
    have hne1 : w.heap.size ≠ w1.heap.size := by omega
    have hne2 : w.heap.size + 1 ≠ w1.heap.size := by omega
    have c0 := (KB.out.cell 0).trans (show _ = some (.int .i64 7) from rfl)
    have c1 := (KB.out.cell 1).trans (show _ = some (.int .i64 A) from rfl)
    have c2 := (KB.out.cell 2).trans (show _ = some (.int .i64 B) from rfl)
    have HB := hide (show Below w.heap.size w w1 from (((Below.refl _ _).alloc (Nat.le_refl _) _).alloc (by simp) _).trans (hb.mono (by simp; omega)))
    have HK := hide hk
    have KX := hide (show ∀ o : Obj, (w1.alloc o).heap[w.heap.size + 1]? = some (.cells zeroOp 30) from fun o => KR.out.alloc o)
    clear hb hk KB KR
    have HC1 := hide (opC_one1 7 A' B' 0 0 p q' a' n' c')
    go_wp2_with (first | (refine wpList_store_row rfl 30 _ _ rfl (w.heap.size + 1) (opC 7 A' B' 0 0 p q' (.slice a' n' c')) rfl rfl 30 zeroOp (KX.out _) infoO8 rfl HC1.out ?_) | fail)
    refine bodyPost_ret (v := .agg (opC 7 A' B' 0 0 p q' (.slice a' n' c'))) ?_ rfl ⟨_, _, _, _, rfl, ⟨HK.out.1, HK.out.2.1, HK.out.2.2⟩, below_setRow (HB.out.alloc (by omega) _) (by omega) _⟩
    exact results_cell_row rfl _ _ (w.heap.size + 1) 30 _ (0, 0) _ rfl ((show Blk _ _ _ _ from KX.out _).row _) Tryz.underlying30 rfl infoO8
  · clear h0 h1
    unfold opC at HC ⊢
    go_enter Tryz.func7, Tryz.ntmps7
    go_wp2_with fail
    refine (HC.out _ (by omega) (by omega)).mono ?_
    rintro e w1 ⟨A', B', q', v', rfl, hk, hb⟩
    obtain ⟨a', n', c', rfl⟩ := hk.slice
    have KB := hide (show Blk w1 w.heap.size _ 30 from ((Blk.new w (opC 8 A B U G p q (.slice va vn vc)) 30).alloc _).below hb (by simp <;> omega))
    have KR := hide (show Blk w1 (w.heap.size + 1) zeroOp 30 from by
      have h : Blk _ _ _ _ := (Blk.new (w.alloc (.cells (opC 8 A B U G p q (.slice va vn vc)) 30)) zeroOp 30).below hb (by simp)
      rw [show (w.alloc (.cells (opC 8 A B U G p q (.slice va vn vc)) 30)).heap.size = w.heap.size + 1 by simp] at h
      exact h)
    have hsz : w.heap.size + 2 ≤ w1.heap.size := by have := hb.size; simp at this; omega
    have hlt1 : w.heap.size < w1.heap.size := by omega
    have hne1 : w.heap.size ≠ w1.heap.size := by omega
    have hne2 : w.heap.size + 1 ≠ w1.heap.size := by omega
    have c0 := (KB.out.cell 0).trans (show _ = some (.int .i64 8) from rfl)
    have c1 := (KB.out.cell 1).trans (show _ = some (.int .i64 A) from rfl)
    have c2 := (KB.out.cell 2).trans (show _ = some (.int .i64 B) from rfl)
    have HB := hide (show Below w.heap.size w w1 from (((Below.refl _ _).alloc (Nat.le_refl _) _).alloc (by simp) _).trans (hb.mono (by simp; omega)))
    have HK := hide hk
    have KX := hide (show ∀ o : Obj, (w1.alloc o).heap[w.heap.size + 1]? = some (.cells zeroOp 30) from fun o => KR.out.alloc o)
    clear hb hk KB KR
    have HC1 := hide (opC_one1 8 A' B' 0 0 p q' a' n' c')
    go_wp2_with (first | (refine wpList_store_row rfl 30 _ _ rfl (w.heap.size + 1) (opC 8 A' B' 0 0 p q' (.slice a' n' c')) rfl rfl 30 zeroOp (KX.out _) infoO8 rfl HC1.out ?_) | fail)
    refine bodyPost_ret (v := .agg (opC 8 A' B' 0 0 p q' (.slice a' n' c'))) ?_ rfl ⟨_, _, _, _, rfl, ⟨HK.out.1, HK.out.2.1, HK.out.2.2⟩, below_setRow (HB.out.alloc (by omega) _) (by omega) _⟩
    exact results_cell_row rfl _ _ (w.heap.size + 1) 30 _ (0, 0) _ rfl ((show Blk _ _ _ _ from KX.out _).row _) Tryz.underlying30 rfl infoO8
  · clear h0 h1
    unfold opC at HC ⊢
    go_enter Tryz.func7, Tryz.ntmps7
    go_wp2_with fail
    refine (HC.out _ (by omega) (by omega)).mono ?_
    rintro e w1 ⟨A', B', q', v', rfl, hk, hb⟩
    obtain ⟨a', n', c', rfl⟩ := hk.slice
    have KB := hide (show Blk w1 w.heap.size _ 30 from ((Blk.new w (opC 9 A B U G p q (.slice va vn vc)) 30).alloc _).below hb (by simp <;> omega))
    have KR := hide (show Blk w1 (w.heap.size + 1) zeroOp 30 from by
      have h : Blk _ _ _ _ := (Blk.new (w.alloc (.cells (opC 9 A B U G p q (.slice va vn vc)) 30)) zeroOp 30).below hb (by simp)
      rw [show (w.alloc (.cells (opC 9 A B U G p q (.slice va vn vc)) 30)).heap.size = w.heap.size + 1 by simp] at h
      exact h)
    have hsz : w.heap.size + 2 ≤ w1.heap.size := by have := hb.size; simp at this; omega
    have hlt1 : w.heap.size < w1.heap.size := by omega
    have hne1 : w.heap.size ≠ w1.heap.size := by omega
    have hne2 : w.heap.size + 1 ≠ w1.heap.size := by omega
    have c0 := (KB.out.cell 0).trans (show _ = some (.int .i64 9) from rfl)
    have c1 := (KB.out.cell 1).trans (show _ = some (.int .i64 A) from rfl)
    have c2 := (KB.out.cell 2).trans (show _ = some (.int .i64 B) from rfl)
    have HB := hide (show Below w.heap.size w w1 from (((Below.refl _ _).alloc (Nat.le_refl _) _).alloc (by simp) _).trans (hb.mono (by simp; omega)))
    have HK := hide hk
    have KX := hide (show ∀ o : Obj, (w1.alloc o).heap[w.heap.size + 1]? = some (.cells zeroOp 30) from fun o => KR.out.alloc o)
    clear hb hk KB KR
    have HC1 := hide (opC_one1 9 A' B' 0 0 p q' a' n' c')
    go_wp2_with (first | (refine wpList_store_row rfl 30 _ _ rfl (w.heap.size + 1) (opC 9 A' B' 0 0 p q' (.slice a' n' c')) rfl rfl 30 zeroOp (KX.out _) infoO8 rfl HC1.out ?_) | fail)
    refine bodyPost_ret (v := .agg (opC 9 A' B' 0 0 p q' (.slice a' n' c'))) ?_ rfl ⟨_, _, _, _, rfl, ⟨HK.out.1, HK.out.2.1, HK.out.2.2⟩, below_setRow (HB.out.alloc (by omega) _) (by omega) _⟩
    exact results_cell_row rfl _ _ (w.heap.size + 1) 30 _ (0, 0) _ rfl ((show Blk _ _ _ _ from KX.out _).row _) Tryz.underlying30 rfl infoO8
  · clear h0 h1
    unfold opC at HC ⊢
    go_enter Tryz.func7, Tryz.ntmps7
    go_wp2_with fail
    refine (HC.out _ (by omega) (by omega)).mono ?_
    rintro e w1 ⟨A', B', q', v', rfl, hk, hb⟩
    obtain ⟨a', n', c', rfl⟩ := hk.slice
    have KB := hide (show Blk w1 w.heap.size _ 30 from ((Blk.new w (opC 10 A B U G p q (.slice va vn vc)) 30).alloc _).below hb (by simp <;> omega))
    have KR := hide (show Blk w1 (w.heap.size + 1) zeroOp 30 from by
      have h : Blk _ _ _ _ := (Blk.new (w.alloc (.cells (opC 10 A B U G p q (.slice va vn vc)) 30)) zeroOp 30).below hb (by simp)
      rw [show (w.alloc (.cells (opC 10 A B U G p q (.slice va vn vc)) 30)).heap.size = w.heap.size + 1 by simp] at h
      exact h)
    have hsz : w.heap.size + 2 ≤ w1.heap.size := by have := hb.size; simp at this; omega
    have hlt1 : w.heap.size < w1.heap.size := by omega
    have hne1 : w.heap.size ≠ w1.heap.size := by omega
    have hne2 : w.heap.size + 1 ≠ w1.heap.size := by omega
    have c0 := (KB.out.cell 0).trans (show _ = some (.int .i64 10) from rfl)
    have c1 := (KB.out.cell 1).trans (show _ = some (.int .i64 A) from rfl)
    have c2 := (KB.out.cell 2).trans (show _ = some (.int .i64 B) from rfl)
    have HB := hide (show Below w.heap.size w w1 from (((Below.refl _ _).alloc (Nat.le_refl _) _).alloc (by simp) _).trans (hb.mono (by simp; omega)))
    have HK := hide hk
    have KX := hide (show ∀ o : Obj, (w1.alloc o).heap[w.heap.size + 1]? = some (.cells zeroOp 30) from fun o => KR.out.alloc o)
    clear hb hk KB KR
    have HC1 := hide (opC_one1 10 A' B' 0 0 p q' a' n' c')
    go_wp2_with (first | (refine wpList_store_row rfl 30 _ _ rfl (w.heap.size + 1) (opC 10 A' B' 0 0 p q' (.slice a' n' c')) rfl rfl 30 zeroOp (KX.out _) infoO8 rfl HC1.out ?_) | fail)
    refine bodyPost_ret (v := .agg (opC 10 A' B' 0 0 p q' (.slice a' n' c'))) ?_ rfl ⟨_, _, _, _, rfl, ⟨HK.out.1, HK.out.2.1, HK.out.2.2⟩, below_setRow (HB.out.alloc (by omega) _) (by omega) _⟩
    exact results_cell_row rfl _ _ (w.heap.size + 1) 30 _ (0, 0) _ rfl ((show Blk _ _ _ _ from KX.out _).row _) Tryz.underlying30 rfl infoO8
  · clear h0 h1
    unfold opC at HC ⊢
    go_enter Tryz.func7, Tryz.ntmps7
    go_wp2_with fail
    refine (HC.out _ (by omega) (by omega)).mono ?_
    rintro e w1 ⟨A', B', q', v', rfl, hk, hb⟩
    obtain ⟨a', n', c', rfl⟩ := hk.slice
    have KB := hide (show Blk w1 w.heap.size _ 30 from ((Blk.new w (opC 11 A B U G p q (.slice va vn vc)) 30).alloc _).below hb (by simp <;> omega))
    have KR := hide (show Blk w1 (w.heap.size + 1) zeroOp 30 from by
      have h : Blk _ _ _ _ := (Blk.new (w.alloc (.cells (opC 11 A B U G p q (.slice va vn vc)) 30)) zeroOp 30).below hb (by simp)
      rw [show (w.alloc (.cells (opC 11 A B U G p q (.slice va vn vc)) 30)).heap.size = w.heap.size + 1 by simp] at h
      exact h)
    have hsz : w.heap.size + 2 ≤ w1.heap.size := by have := hb.size; simp at this; omega
    have hlt1 : w.heap.size < w1.heap.size := by omega
    have hne1 : w.heap.size ≠ w1.heap.size := by omega
    have hne2 : w.heap.size + 1 ≠ w1.heap.size := by omega
    have c0 := (KB.out.cell 0).trans (show _ = some (.int .i64 11) from rfl)
    have c1 := (KB.out.cell 1).trans (show _ = some (.int .i64 A) from rfl)
    have c2 := (KB.out.cell 2).trans (show _ = some (.int .i64 B) from rfl)
    have HB := hide (show Below w.heap.size w w1 from (((Below.refl _ _).alloc (Nat.le_refl _) _).alloc (by simp) _).trans (hb.mono (by simp; omega)))
    have HK := hide hk
    have KX := hide (show ∀ o : Obj, (w1.alloc o).heap[w.heap.size + 1]? = some (.cells zeroOp 30) from fun o => KR.out.alloc o)
    clear hb hk KB KR
    have HC1 := hide (opC_one1 11 A' B' 0 0 p q' a' n' c')
    go_wp2_with (first | (refine wpList_store_row rfl 30 _ _ rfl (w.heap.size + 1) (opC 11 A' B' 0 0 p q' (.slice a' n' c')) rfl rfl 30 zeroOp (KX.out _) infoO8 rfl HC1.out ?_) | fail)
    refine bodyPost_ret (v := .agg (opC 11 A' B' 0 0 p q' (.slice a' n' c'))) ?_ rfl ⟨_, _, _, _, rfl, ⟨HK.out.1, HK.out.2.1, HK.out.2.2⟩, below_setRow (HB.out.alloc (by omega) _) (by omega) _⟩
    exact results_cell_row rfl _ _ (w.heap.size + 1) 30 _ (0, 0) _ rfl ((show Blk _ _ _ _ from KX.out _).row _) Tryz.underlying30 rfl infoO8
  · clear h0 h1
    unfold opC at HC ⊢
    go_enter Tryz.func7, Tryz.ntmps7
    go_wp2_with fail
    refine (HC.out _ (by omega) (by omega)).mono ?_
    rintro e w1 ⟨A', B', q', v', rfl, hk, hb⟩
    obtain ⟨a', n', c', rfl⟩ := hk.slice
    have KB := hide (show Blk w1 w.heap.size _ 30 from ((Blk.new w (opC 12 A B U G p q (.slice va vn vc)) 30).alloc _).below hb (by simp <;> omega))
    have KR := hide (show Blk w1 (w.heap.size + 1) zeroOp 30 from by
      have h : Blk _ _ _ _ := (Blk.new (w.alloc (.cells (opC 12 A B U G p q (.slice va vn vc)) 30)) zeroOp 30).below hb (by simp)
      rw [show (w.alloc (.cells (opC 12 A B U G p q (.slice va vn vc)) 30)).heap.size = w.heap.size + 1 by simp] at h
      exact h)
    have hsz : w.heap.size + 2 ≤ w1.heap.size := by have := hb.size; simp at this; omega
    have hlt1 : w.heap.size < w1.heap.size := by omega
    have hne1 : w.heap.size ≠ w1.heap.size := by omega
    have hne2 : w.heap.size + 1 ≠ w1.heap.size := by omega
    have c0 := (KB.out.cell 0).trans (show _ = some (.int .i64 12) from rfl)
    have c1 := (KB.out.cell 1).trans (show _ = some (.int .i64 A) from rfl)
    have c2 := (KB.out.cell 2).trans (show _ = some (.int .i64 B) from rfl)
    have HB := hide (show Below w.heap.size w w1 from (((Below.refl _ _).alloc (Nat.le_refl _) _).alloc (by simp) _).trans (hb.mono (by simp; omega)))
    have HK := hide hk
    have KX := hide (show ∀ o : Obj, (w1.alloc o).heap[w.heap.size + 1]? = some (.cells zeroOp 30) from fun o => KR.out.alloc o)
    clear hb hk KB KR
    have HC1 := hide (opC_one1 12 A B 0 0 p q' a' n' c')
    go_wp2_with (first | (refine wpList_store_row rfl 30 _ _ rfl (w.heap.size + 1) (opC 12 A B 0 0 p q' (.slice a' n' c')) rfl rfl 30 zeroOp (KX.out _) infoO8 rfl HC1.out ?_) | fail)
    refine bodyPost_ret (v := .agg (opC 12 A B 0 0 p q' (.slice a' n' c'))) ?_ rfl ⟨_, _, _, _, rfl, ⟨.inl rfl, .inl rfl, HK.out.2.2⟩, below_setRow (HB.out.alloc (by omega) _) (by omega) _⟩
    exact results_cell_row rfl _ _ (w.heap.size + 1) 30 _ (0, 0) _ rfl ((show Blk _ _ _ _ from KX.out _).row _) Tryz.underlying30 rfl infoO8
  · clear h0 h1
    unfold opC at HC ⊢
    go_enter Tryz.func7, Tryz.ntmps7
    go_wp2_with fail
    refine (HC.out _ (by omega) (by omega)).mono ?_
    rintro e w1 ⟨A', B', q', v', rfl, hk, hb⟩
    obtain ⟨a', n', c', rfl⟩ := hk.slice
    have KB := hide (show Blk w1 w.heap.size _ 30 from ((Blk.new w (opC 13 A B U G p q (.slice va vn vc)) 30).alloc _).below hb (by simp <;> omega))
    have KR := hide (show Blk w1 (w.heap.size + 1) zeroOp 30 from by
      have h : Blk _ _ _ _ := (Blk.new (w.alloc (.cells (opC 13 A B U G p q (.slice va vn vc)) 30)) zeroOp 30).below hb (by simp)
      rw [show (w.alloc (.cells (opC 13 A B U G p q (.slice va vn vc)) 30)).heap.size = w.heap.size + 1 by simp] at h
      exact h)
    have hsz : w.heap.size + 2 ≤ w1.heap.size := by have := hb.size; simp at this; omega
    have hlt1 : w.heap.size < w1.heap.size := by omega
    have hne1 : w.heap.size ≠ w1.heap.size := by omega
    have hne2 : w.heap.size + 1 ≠ w1.heap.size := by omega
    have c0 := (KB.out.cell 0).trans (show _ = some (.int .i64 13) from rfl)
    have c1 := (KB.out.cell 1).trans (show _ = some (.int .i64 A) from rfl)
    have c2 := (KB.out.cell 2).trans (show _ = some (.int .i64 B) from rfl)
    have HB := hide (show Below w.heap.size w w1 from (((Below.refl _ _).alloc (Nat.le_refl _) _).alloc (by simp) _).trans (hb.mono (by simp; omega)))
    have HK := hide hk
    have KX := hide (show ∀ o : Obj, (w1.alloc o).heap[w.heap.size + 1]? = some (.cells zeroOp 30) from fun o => KR.out.alloc o)
    clear hb hk KB KR
    have HC1 := hide (opC_one1 13 A' B' 0 0 p q' a' n' c')
    go_wp2_with (first | (refine wpList_store_row rfl 30 _ _ rfl (w.heap.size + 1) (opC 13 A' B' 0 0 p q' (.slice a' n' c')) rfl rfl 30 zeroOp (KX.out _) infoO8 rfl HC1.out ?_) | fail)
    refine bodyPost_ret (v := .agg (opC 13 A' B' 0 0 p q' (.slice a' n' c'))) ?_ rfl ⟨_, _, _, _, rfl, ⟨HK.out.1, HK.out.2.1, HK.out.2.2⟩, below_setRow (HB.out.alloc (by omega) _) (by omega) _⟩
    exact results_cell_row rfl _ _ (w.heap.size + 1) 30 _ (0, 0) _ rfl ((show Blk _ _ _ _ from KX.out _).row _) Tryz.underlying30 rfl infoO8
  · clear h0 h1
    unfold opC at HC ⊢
    go_enter Tryz.func7, Tryz.ntmps7
    go_wp2_with fail
    refine (HC.out _ (by omega) (by omega)).mono ?_
    rintro e w1 ⟨A', B', q', v', rfl, hk, hb⟩
    obtain ⟨a', n', c', rfl⟩ := hk.slice
    have KB := hide (show Blk w1 w.heap.size _ 30 from ((Blk.new w (opC 14 A B U G p q (.slice va vn vc)) 30).alloc _).below hb (by simp <;> omega))
    have KR := hide (show Blk w1 (w.heap.size + 1) zeroOp 30 from by
      have h : Blk _ _ _ _ := (Blk.new (w.alloc (.cells (opC 14 A B U G p q (.slice va vn vc)) 30)) zeroOp 30).below hb (by simp)
      rw [show (w.alloc (.cells (opC 14 A B U G p q (.slice va vn vc)) 30)).heap.size = w.heap.size + 1 by simp] at h
      exact h)
    have hsz : w.heap.size + 2 ≤ w1.heap.size := by have := hb.size; simp at this; omega
    have hlt1 : w.heap.size < w1.heap.size := by omega
    have hne1 : w.heap.size ≠ w1.heap.size := by omega
    have hne2 : w.heap.size + 1 ≠ w1.heap.size := by omega
    have c0 := (KB.out.cell 0).trans (show _ = some (.int .i64 14) from rfl)
    have c1 := (KB.out.cell 1).trans (show _ = some (.int .i64 A) from rfl)
    have c2 := (KB.out.cell 2).trans (show _ = some (.int .i64 B) from rfl)
    have HB := hide (show Below w.heap.size w w1 from (((Below.refl _ _).alloc (Nat.le_refl _) _).alloc (by simp) _).trans (hb.mono (by simp; omega)))
    have HK := hide hk
    have KX := hide (show ∀ o : Obj, (w1.alloc o).heap[w.heap.size + 1]? = some (.cells zeroOp 30) from fun o => KR.out.alloc o)
    clear hb hk KB KR
    have HC1 := hide (opC_one1 14 A' B' 0 0 p q' a' n' c')
    go_wp2_with (first | (refine wpList_store_row rfl 30 _ _ rfl (w.heap.size + 1) (opC 14 A' B' 0 0 p q' (.slice a' n' c')) rfl rfl 30 zeroOp (KX.out _) infoO8 rfl HC1.out ?_) | fail)
    refine bodyPost_ret (v := .agg (opC 14 A' B' 0 0 p q' (.slice a' n' c'))) ?_ rfl ⟨_, _, _, _, rfl, ⟨HK.out.1, HK.out.2.1, HK.out.2.2⟩, below_setRow (HB.out.alloc (by omega) _) (by omega) _⟩
    exact results_cell_row rfl _ _ (w.heap.size + 1) 30 _ (0, 0) _ rfl ((show Blk _ _ _ _ from KX.out _).row _) Tryz.underlying30 rfl infoO8
  · clear h0 h1
    unfold opC at HC ⊢
    go_enter Tryz.func7, Tryz.ntmps7
    go_wp2_with fail
    refine (HC.out _ (by omega) (by omega)).mono ?_
    rintro e w1 ⟨A', B', q', v', rfl, hk, hb⟩
    obtain ⟨a', n', c', rfl⟩ := hk.slice
    have KB := hide (show Blk w1 w.heap.size _ 30 from ((Blk.new w (opC 15 A B U G p q (.slice va vn vc)) 30).alloc _).below hb (by simp <;> omega))
    have KR := hide (show Blk w1 (w.heap.size + 1) zeroOp 30 from by
      have h : Blk _ _ _ _ := (Blk.new (w.alloc (.cells (opC 15 A B U G p q (.slice va vn vc)) 30)) zeroOp 30).below hb (by simp)
      rw [show (w.alloc (.cells (opC 15 A B U G p q (.slice va vn vc)) 30)).heap.size = w.heap.size + 1 by simp] at h
      exact h)
    have hsz : w.heap.size + 2 ≤ w1.heap.size := by have := hb.size; simp at this; omega
    have hlt1 : w.heap.size < w1.heap.size := by omega
    have hne1 : w.heap.size ≠ w1.heap.size := by omega
    have hne2 : w.heap.size + 1 ≠ w1.heap.size := by omega
    have c0 := (KB.out.cell 0).trans (show _ = some (.int .i64 15) from rfl)
    have c1 := (KB.out.cell 1).trans (show _ = some (.int .i64 A) from rfl)
    have c2 := (KB.out.cell 2).trans (show _ = some (.int .i64 B) from rfl)
    have HB := hide (show Below w.heap.size w w1 from (((Below.refl _ _).alloc (Nat.le_refl _) _).alloc (by simp) _).trans (hb.mono (by simp; omega)))
    have HK := hide hk
    have KX := hide (show ∀ o : Obj, (w1.alloc o).heap[w.heap.size + 1]? = some (.cells zeroOp 30) from fun o => KR.out.alloc o)
    clear hb hk KB KR
    have HC1 := hide (opC_one1 15 A' B' 0 0 p q' a' n' c')
    go_wp2_with (first | (refine wpList_store_row rfl 30 _ _ rfl (w.heap.size + 1) (opC 15 A' B' 0 0 p q' (.slice a' n' c')) rfl rfl 30 zeroOp (KX.out _) infoO8 rfl HC1.out ?_) | fail)
    refine bodyPost_ret (v := .agg (opC 15 A' B' 0 0 p q' (.slice a' n' c'))) ?_ rfl ⟨_, _, _, _, rfl, ⟨HK.out.1, HK.out.2.1, HK.out.2.2⟩, below_setRow (HB.out.alloc (by omega) _) (by omega) _⟩
    exact results_cell_row rfl _ _ (w.heap.size + 1) 30 _ (0, 0) _ rfl ((show Blk _ _ _ _ from KX.out _).row _) Tryz.underlying30 rfl infoO8
  · clear h0 h1
    unfold opC at HC ⊢
    go_enter Tryz.func7, Tryz.ntmps7
    go_wp2_with fail
    refine (HC.out _ (by omega) (by omega)).mono ?_
    rintro e w1 ⟨A', B', q', v', rfl, hk, hb⟩
    obtain ⟨a', n', c', rfl⟩ := hk.slice
    have KB := hide (show Blk w1 w.heap.size _ 30 from ((Blk.new w (opC 16 A B U G p q (.slice va vn vc)) 30).alloc _).below hb (by simp <;> omega))
    have KR := hide (show Blk w1 (w.heap.size + 1) zeroOp 30 from by
      have h : Blk _ _ _ _ := (Blk.new (w.alloc (.cells (opC 16 A B U G p q (.slice va vn vc)) 30)) zeroOp 30).below hb (by simp)
      rw [show (w.alloc (.cells (opC 16 A B U G p q (.slice va vn vc)) 30)).heap.size = w.heap.size + 1 by simp] at h
      exact h)
    have hsz : w.heap.size + 2 ≤ w1.heap.size := by have := hb.size; simp at this; omega
    have hlt1 : w.heap.size < w1.heap.size := by omega
    have hne1 : w.heap.size ≠ w1.heap.size := by omega
    have hne2 : w.heap.size + 1 ≠ w1.heap.size := by omega
    have c0 := (KB.out.cell 0).trans (show _ = some (.int .i64 16) from rfl)
    have c1 := (KB.out.cell 1).trans (show _ = some (.int .i64 A) from rfl)
    have c2 := (KB.out.cell 2).trans (show _ = some (.int .i64 B) from rfl)
    have HB := hide (show Below w.heap.size w w1 from (((Below.refl _ _).alloc (Nat.le_refl _) _).alloc (by simp) _).trans (hb.mono (by simp; omega)))
    have HK := hide hk
    have KX := hide (show ∀ o : Obj, (w1.alloc o).heap[w.heap.size + 1]? = some (.cells zeroOp 30) from fun o => KR.out.alloc o)
    clear hb hk KB KR
    have HC1 := hide (opC_one1 16 A' B' 0 0 p q' a' n' c')
    go_wp2_with (first | (refine wpList_store_row rfl 30 _ _ rfl (w.heap.size + 1) (opC 16 A' B' 0 0 p q' (.slice a' n' c')) rfl rfl 30 zeroOp (KX.out _) infoO8 rfl HC1.out ?_) | fail)
    refine bodyPost_ret (v := .agg (opC 16 A' B' 0 0 p q' (.slice a' n' c'))) ?_ rfl ⟨_, _, _, _, rfl, ⟨HK.out.1, HK.out.2.1, HK.out.2.2⟩, below_setRow (HB.out.alloc (by omega) _) (by omega) _⟩
    exact results_cell_row rfl _ _ (w.heap.size + 1) 30 _ (0, 0) _ rfl ((show Blk _ _ _ _ from KX.out _).row _) Tryz.underlying30 rfl infoO8
  · clear h0 h1
    unfold opC at HC ⊢
    go_enter Tryz.func7, Tryz.ntmps7
    go_wp2_with fail
    refine (HC.out _ (by omega) (by omega)).mono ?_
    rintro e w1 ⟨A', B', q', v', rfl, hk, hb⟩
    obtain ⟨a', n', c', rfl⟩ := hk.slice
    have KB := hide (show Blk w1 w.heap.size _ 30 from ((Blk.new w (opC 17 A B U G p q (.slice va vn vc)) 30).alloc _).below hb (by simp <;> omega))
    have KR := hide (show Blk w1 (w.heap.size + 1) zeroOp 30 from by
      have h : Blk _ _ _ _ := (Blk.new (w.alloc (.cells (opC 17 A B U G p q (.slice va vn vc)) 30)) zeroOp 30).below hb (by simp)
      rw [show (w.alloc (.cells (opC 17 A B U G p q (.slice va vn vc)) 30)).heap.size = w.heap.size + 1 by simp] at h
      exact h)
    have hsz : w.heap.size + 2 ≤ w1.heap.size := by have := hb.size; simp at this; omega
    have hlt1 : w.heap.size < w1.heap.size := by omega
    have hne1 : w.heap.size ≠ w1.heap.size := by omega
    have hne2 : w.heap.size + 1 ≠ w1.heap.size := by omega
    have c0 := (KB.out.cell 0).trans (show _ = some (.int .i64 17) from rfl)
    have c1 := (KB.out.cell 1).trans (show _ = some (.int .i64 A) from rfl)
    have c2 := (KB.out.cell 2).trans (show _ = some (.int .i64 B) from rfl)
    have HB := hide (show Below w.heap.size w w1 from (((Below.refl _ _).alloc (Nat.le_refl _) _).alloc (by simp) _).trans (hb.mono (by simp; omega)))
    have HK := hide hk
    have KX := hide (show ∀ o : Obj, (w1.alloc o).heap[w.heap.size + 1]? = some (.cells zeroOp 30) from fun o => KR.out.alloc o)
    clear hb hk KB KR
    have HC1 := hide (opC_one1 17 A B 0 0 p q' a' n' c')
    go_wp2_with (first | (refine wpList_store_row rfl 30 _ _ rfl (w.heap.size + 1) (opC 17 A B 0 0 p q' (.slice a' n' c')) rfl rfl 30 zeroOp (KX.out _) infoO8 rfl HC1.out ?_) | fail)
    refine bodyPost_ret (v := .agg (opC 17 A B 0 0 p q' (.slice a' n' c'))) ?_ rfl ⟨_, _, _, _, rfl, ⟨.inl rfl, .inl rfl, HK.out.2.2⟩, below_setRow (HB.out.alloc (by omega) _) (by omega) _⟩
    exact results_cell_row rfl _ _ (w.heap.size + 1) 30 _ (0, 0) _ rfl ((show Blk _ _ _ _ from KX.out _).row _) Tryz.underlying30 rfl infoO8
end Go.Proofs.YtohmjfagbhnieaaGreatDoor
