/- EncodeWords of the program: it gives encW, in memory of its own. The program lays a root down: layRoot, EncodeRoot. -/
import Derived.Test.YtmmhkjpkidljlaaDoorZc23
import Derived.Test.YtmmhkjpkidljlaaDoorZc18
import Derived.Test.YtmmhkjpkidljlaaDoorZc12
import Derived.Deep.RegionHeld
namespace Go.Proofs.YtmmhkjpkidljlaaDoor
open Go.RowKit

/-- The bytes of whatever integers, each cut to its lowest 32 bits. -/
def bytesM (ws : List Int) : List Int := ws.flatMap fun v => le 4 (v % 4294967296).toNat
theorem bytesM_take (ws : List Int) (k : Nat) (h : k < ws.length) : bytesM (ws.take (k + 1)) = bytesM (ws.take k) ++ le 4 (ws.getD k 0 % 4294967296).toNat := by
  unfold bytesM
  rw [List.take_succ_eq_append_getElem h, List.flatMap_append]
  simp [List.getD, h]
theorem bytesM_eq (ws : List Int) (h : ws.all okW = true) : bytesM ws = bytesW ws := by
  unfold bytesM bytesW
  induction ws with
  | nil => rfl
  | cons v ws ih =>
    rw [List.all_cons, Bool.and_eq_true] at h
    rw [List.flatMap_cons, List.flatMap_cons, ih h.2]
    have := h.1
    simp only [okW, Bool.and_eq_true, decide_eq_true_eq] at this
    rw [Int.emod_eq_of_lt this.1 (by omega)]

end Go.Proofs.YtmmhkjpkidljlaaDoor

namespace Go.Proofs.YtmmhkjpkidljlaaDoor
set_option linter.unusedVariables false
set_option linter.unusedSimpArgs false
open Go.RowKit

theorem bytesW_append (xs ys : List Int) : bytesW (xs ++ ys) = bytesW xs ++ bytesW ys := by simp [bytesW]

set_option maxRecDepth 100000 in
set_option maxHeartbeats 1000000 in
theorem layRoot_any (g base k cap : Nat) (xs : List Value) (s : Int) (ds : List Int) (p q : Int) (w : World) (h : w.ownsRow base 5 1 (.slice (some ⟨g, 0, none⟩) k cap) k xs) (hr : k + 64 ≤ cap) (hcap : cap ≤ 1048576) (hd : ds.length = 12) (hs : 0 ≤ s ∧ s ≤ 262144) (hp : ∀ z ∈ ds ++ [p, q], 0 ≤ z ∧ z < 2048) :
    Calls Tryd.prog 69 #[.slice (some ⟨g, 0, none⟩) k cap, .agg (cellsI (rootI s ds p q))] w fun e w' => e = .returned (.slice (some ⟨g, 0, none⟩) (k + 64) cap) ∧ w'.ownsRow base 5 1 (.slice (some ⟨g, 0, none⟩) (k + 64) cap) (k + 64) (xs ++ (bytesR s ds p q).map (Value.int .u8)) ∧ w.grownBy w' (some g) := by
  have HD := hide hd
  have hg := (h.lt g rfl).2
  obtain ⟨n, hn⟩ := Int.eq_ofNat_of_zero_le hs.1
  have hn2 : n ≤ 262144 := by omega
  have HN := hide hn
  have c0 : (w.alloc (.cells (cellsI (rootI s ds p q)) 36)).cell? ⟨w.heap.size, 0, none⟩ = some (.int .i64 (n : Int)) := by
    rw [(Blk.new w _ _).cell 0, ← hn]; rfl
  have hpp := hp p (by simp)
  have hqq := hp q (by simp)
  obtain ⟨pn, hpn⟩ := Int.eq_ofNat_of_zero_le hpp.1
  obtain ⟨qn, hqn⟩ := Int.eq_ofNat_of_zero_le hqq.1
  have hp2 : pn < 2048 := by omega
  have hq2 : qn < 2048 := by omega
  have HPQ := hide (And.intro hpn hqn)
  have HP := hide (show ∀ z ∈ ds, 0 ≤ z ∧ z < 2048 from fun z hz => hp z (by simp [hz]))
  have HX := hide (fun k hk w => index12 ds k HD.out hk w)
  have K := hide (And.intro h (Blk.new w (cellsI (rootI s ds p q)) 36))
  have HBR := hide (show bytesR s ds p q = le 8 n ++ bytesW ds ++ le 4 pn ++ le 4 qn from by
    unfold bytesR
    rw [bytesW_append, hn, hpn, hqn]
    simp [bytesW])
  clear hd hs hp h hn hpp hqq hpn hqn
  go_enter Tryd.func69, Tryd.ntmps69
  go_wp2_with fail
  refine (lay64_any g base k cap n xs _ (K.out.1.alloc _) (by omega) (by omega) (by omega)).mono ?_
  rintro e w1 ⟨rfl, o1, g1⟩
  have hs1 := g1.size
  rw [World.size_alloc] at hs1
  have H1 := hide (And.intro o1 (And.intro (show Blk w1 w.heap.size (cellsI (rootI s ds p q)) 36 from (g1.block _ (by simp) (by simp; omega)).trans K.out.2) (grownBy_trans (World.grownBy_alloc w _ (some g)) g1)))
  have HR := hide (show w1.rangeAt w.heap.size 1 (ds.map (Value.int .i64)) from by
    have hr := H1.out.2.1.range 1 12 (by rw [rootI_len _ _ _ _ HD.out]; omega)
    rw [root_range _ _ _ _ HD.out] at hr
    exact hr)
  clear o1 g1 c0
  go_wp2_with (refine wpList_load_mid rfl 23 _ rfl w.heap.size 1 rfl (ds.map (Value.int .i64)) _ HR.out Tryd.underlying23 rfl (by rw [List.length_map, HD.out]; exact info12) ?_)
  go_loopw [0, 14] (fun o i wr => ∃ j : Nat, j ≤ 12 ∧ i = .int .i64 j ∧ o = .slice (some ⟨g, 0, none⟩) (k + 8 + 4 * j) cap ∧ w.heap.size < wr.heap.size ∧ wr.ownsRow base 5 1 (.slice (some ⟨g, 0, none⟩) (k + 8 + 4 * j) cap) (k + 8 + 4 * j) (xs ++ (le 8 n ++ bytesW (ds.take j)).map (Value.int .u8)) ∧ Blk wr w.heap.size (cellsI (rootI s ds p q)) 36 ∧ w.grownBy wr (some g)) (fun _ i _ => 12 - (intOf i).toNat)
  case atStart => exact ⟨0, by omega, rfl, rfl, by omega, by simpa [bytesW] using H1.out.1, H1.out.2.1, H1.out.2.2⟩
  case round =>
    clear H1 HR hs1
    obtain ⟨j, hj, rfl, rfl, hwr, hown, hblk, hgr⟩ := hrel
    have HC := hide (And.intro hown (And.intro hblk hgr))
    clear hown hblk hgr
    by_cases hlt : j < 12
    · have hjl : j < ds.length := by rw [HD.out]; exact hlt
      have hix : ∀ w, (Instr.index 23 (.agg (ds.map (Value.int .i64)).toArray) (.int .i64 j)).run Tryd.prog w = .ok (.int .i64 (ds.getD j 0)) w := fun w => HX.out j hlt w
      have hz1 := HP.out (ds.getD j 0) (by simp [List.getD, hjl])
      have HT := hide (bytesW_take ds j hjl)
      clear hjl
      generalize ds.getD j 0 = z at hix HT hz1
      obtain ⟨y, rfl⟩ := Int.eq_ofNat_of_zero_le hz1.1
      obtain ⟨_, hy2⟩ := hz1
      have hy : y < 2048 := by omega
      clear hy2
      rw [Int.toNat_natCast] at HT
      go_wp2_with (go_at_call 68; fail)
      refine (lay32_any g base (k + 8 + 4 * j) cap y _ _ HC.out.1 (by omega) (by omega) (by omega)).mono ?_
      rintro e w2 ⟨rfl, o2, g2⟩
      have hs2 := g2.size
      have HW := hide (show w2.ownsRow base 5 1 (.slice (some ⟨g, 0, none⟩) (k + 8 + 4 * (j + 1)) cap) (k + 8 + 4 * (j + 1)) (xs ++ (le 8 n ++ bytesW (ds.take (j + 1))).map (Value.int .u8)) ∧ Blk w2 w.heap.size (cellsI (rootI s ds p q)) 36 ∧ w.grownBy w2 (some g) from by
        refine ⟨?_, (g2.block _ hwr (by simp; omega)).trans HC.out.2.1, grownBy_trans HC.out.2.2 g2⟩
        rw [HT.out, ← List.append_assoc, List.map_append, ← List.append_assoc, show k + 8 + 4 * (j + 1) = k + 8 + 4 * j + 4 from by omega]
        exact o2)
      clear o2 g2
      go_wp2
      go_roundw
      case rel => exact ⟨j + 1, by omega, by go_num, by rw [show k + 8 + 4 * (j + 1) = k + 8 + 4 * j + 4 from by omega], by omega, HW.out.1, HW.out.2.1, HW.out.2.2⟩
      case measure => simp [intOf]; omega
    · have e12 : j = 12 := by omega
      subst e12
      have a13 := (HC.out.2.1.cell 13).trans (rootI_get13 s ds p q HD.out)
      rw [HPQ.out.1] at a13
      go_wp2_with (go_at_call 68; fail)
      refine (lay32_any g base (k + 8 + 4 * 12) cap pn _ _ HC.out.1 (by omega) (by omega) (by omega)).mono ?_
      rintro e w2 ⟨rfl, o2, g2⟩
      have hk2 : Blk w2 w.heap.size (cellsI (rootI s ds p q)) 36 := (g2.block _ hwr (by simp; omega)).trans HC.out.2.1
      have a14 := (hk2.cell 14).trans (rootI_get14 s ds p q HD.out)
      rw [HPQ.out.2] at a14
      have H2 := hide (And.intro o2 (grownBy_trans HC.out.2.2 g2))
      clear o2 g2 a13 hk2
      go_wp2_with (go_at_call 68; fail)
      refine (lay32_any g base (k + 8 + 4 * 12 + 4) cap qn _ _ H2.out.1 (by omega) (by omega) (by omega)).mono ?_
      rintro e w3 ⟨rfl, o3, g3⟩
      have H3 := hide (And.intro o3 (grownBy_trans H2.out.2 g3))
      clear o3 g3 a14
      go_wp2
      go_ret
      have ho := H3.out.1
      rw [List.take_of_length_le (by rw [HD.out]; omega)] at ho
      refine ⟨rfl, ?_, H3.out.2⟩
      rw [HBR.out, List.map_append, List.map_append, ← List.append_assoc, ← List.append_assoc]
      exact ho
end Go.Proofs.YtmmhkjpkidljlaaDoor
