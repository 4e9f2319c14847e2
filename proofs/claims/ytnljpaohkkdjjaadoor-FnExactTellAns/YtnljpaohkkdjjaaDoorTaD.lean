/- A line in the making (Ln): an owned row of bytes, and what stands beside it; the program's isToldPlainly and tellNumbers. -/
import Derived.Test.YtnljpaohkkdjjaaDoorTaC
import Derived.Lib.AppendStr
namespace Go.Proofs.YtnljpaohkkdjjaaDoor
set_option linter.unusedVariables false
set_option linter.unusedSimpArgs false
open Go.RowKit

/-- v is a row of bytes l of its own, from block B on; behind w0 nothing below B has turned, and no block but rows of bytes. -/
structure Ln (B : Nat) (w0 : World) (l : List UInt8) (v : Value) (w : World) : Prop where
  own : w.ownsRow B 5 1 v l.length (Lib.byteCells l)
  bel : Below B w0 w
  kept : Lib.OthersKept 5 none w0 w
  le : B ≤ w0.heap.size
section
variable {B : Nat} {w0 w w' : World} {l l2 : List UInt8} {v v' : Value}
theorem Ln.start (h : w.ownsRow B 5 1 v l.length (Lib.byteCells l)) (hB : B ≤ w.heap.size) : Ln B w l v w := ⟨h, Below.refl _ _, Lib.OthersKept.refl _ _ _, hB⟩
theorem Ln.siz (h : Ln B w0 l v w) : B ≤ w.heap.size := Nat.le_trans h.le h.bel.size
theorem Ln.alloc (h : Ln B w0 l v w) (o : Obj) : Ln B w0 l v (w.alloc o) := ⟨own_below h.own ((Below.refl _ _).alloc (Nat.le_refl _) o), h.bel.alloc h.siz o, h.kept.alloc o, h.le⟩
theorem Ln.drew (h : Ln B w0 l v w) : Ln B w0 l v (World.drew w) := ⟨own_below h.own ((Below.refl _ _).drew), h.bel.drew, h.kept.drew, h.le⟩
theorem Ln.shape (h : Ln B w0 l v w) : ∃ a cap, v = .slice a l.length cap := own_shapeT h.own
theorem Ln.lt (h : Ln B w0 l v w) {g : Nat} (hg : v.ownBlock = some g) : B ≤ g ∧ g < w.heap.size := h.own.lt g hg
theorem Ln.row (h : Ln B w0 l v w) {g : Nat} (hg : v.ownBlock = some g) : ∃ c fz, w.heap[g]? = some (.cells c 5 fz) := by
  rcases h.own.2 with ⟨rfl, _⟩ | ⟨g', cap, cur, rfl, _, hh, _⟩
  · cases hg
  · have : g' = g := Option.some.inj hg
    subst this
    exact ⟨_, _, hh⟩
theorem Ln.app {n : Nat} {xs : List Value} (h : Ln B w0 l v w) (hx : xs = Lib.byteCells l2 ∧ n = l2.length) (ho : w'.ownsRow B 5 1 v' (l.length + n) (Lib.byteCells l ++ xs)) (hg : w.grownBy w' v.ownBlock) : Ln B w0 (l ++ l2) v' w' := by
  refine ⟨?_, h.bel.grown hg h.siz (fun r hr => (h.own.lt r hr).1), h.kept.grown hg (fun g hr => h.row hr), h.le⟩
  obtain ⟨rfl, rfl⟩ := hx
  rw [List.length_append, Lib.byteCells_append]
  exact ho
theorem Ln.call (h : Ln B w0 l v w) (k : Ln B w l2 v' w') : Ln B w0 l2 v' w' := ⟨k.own, h.bel.trans k.bel, h.kept.trans k.kept, h.le⟩
/-- What is no row of bytes stands. -/
theorem Ln.blk (h : Ln B w0 l v w) {b : Nat} {C : Array Value} {t : TypeId} {fz : Nat × Nat} (hb : w0.heap[b]? = some (.cells C t fz)) (ht : t ≠ 5) : w.heap[b]? = some (.cells C t fz) :=
  h.kept b _ hb (by simp) (fun c fz' e => by injection e with _ e2 _; exact ht e2)
end
theorem strCells_mk (l : List UInt8) : Lib.strCells (mk l) = Lib.byteCells l := by simp [Lib.strCells, Lib.byteCells, mk_toList]
theorem told_yes (z : Int) (w : World) (h1 : 33 ≤ z) (h2 : z ≤ 126) (h3 : z ≠ 37) (h4 : z ≠ 58) (h5 : z ≠ 45) :
    Calls Tryd.prog 27 #[.int .u8 z] w fun e w' => e = .returned (.bool true) ∧ w' = w := by
  have e3 : (z == 37) = false := by simpa using h3
  have e4 : (z == 58) = false := by simpa using h4
  have e5 : (z == 45) = false := by simpa using h5
  clear h3 h4 h5
  go_enter Tryd.func27, Tryd.ntmps27
  go_wp2
  go_ret
  exact ⟨rfl, rfl⟩
theorem told_no (z : Int) (w : World) (h : z < 33 ∨ 126 < z ∨ z = 37 ∨ z = 58 ∨ z = 45) :
    Calls Tryd.prog 27 #[.int .u8 z] w fun e w' => e = .returned (.bool false) ∧ w' = w := by
  by_cases e3 : (z == 37) = true
  · clear h
    go_enter Tryd.func27, Tryd.ntmps27
    go_wp2
    go_ret
    exact ⟨rfl, rfl⟩
  by_cases e4 : (z == 58) = true
  · have e3 : (z == 37) = false := by simpa using e3
    clear h
    go_enter Tryd.func27, Tryd.ntmps27
    go_wp2
    go_ret
    exact ⟨rfl, rfl⟩
  by_cases e5 : (z == 45) = true
  · have e3 : (z == 37) = false := by simpa using e3
    have e4 : (z == 58) = false := by simpa using e4
    clear h
    go_enter Tryd.func27, Tryd.ntmps27
    go_wp2
    go_ret
    exact ⟨rfl, rfl⟩
  have h0 : z < 33 ∨ (33 ≤ z ∧ 126 < z) := by simp at e3 e4 e5; omega
  have e3 : (z == 37) = false := by simpa using e3
  have e4 : (z == 58) = false := by simpa using e4
  have e5 : (z == 45) = false := by simpa using e5
  clear h
  rcases h0 with h | ⟨h, h'⟩
  · go_enter Tryd.func27, Tryd.ntmps27
    go_wp2
    go_ret
    exact ⟨rfl, rfl⟩
  · have hd : decide (z ≤ 126) = false := by simp; omega
    go_enter Tryd.func27, Tryd.ntmps27
    go_wp2
    go_ret
    refine ⟨ret_val ?_, rfl⟩
    simp [hd]
set_option maxRecDepth 100000 in
set_option maxHeartbeats 2000000 in
theorem tellNums_any (B : Nat) (m : UInt8) (v : Value) (l : List UInt8) (b : Nat) (zs : List Int) (w : World) (ho : w.ownsRow B 5 1 v l.length (Lib.byteCells l)) (hB : B ≤ w.heap.size)
    (hN : w.heap[b]? = some (.cells (zs.map (Value.int .i64)).toArray 3 (0, 0))) (hl : zs.length ≤ 100) (hb : ∀ z ∈ zs, -9223372036854775808 ≤ z ∧ z ≤ 9223372036854775807) (hll : l.length ≤ 10000000000)
    (htab : Lib.TabBelow Tryd.prog B w "internal/strconv.uint64pow10" .u64 Lib.pow10Tab) :
    Calls Tryd.prog 18 #[v, .int .u8 (m.toNat : Int), .slice (some ⟨b, 0, none⟩) zs.length zs.length] w fun e w' => ∃ v', e = .returned v' ∧ Ln B w (l ++ joinL m zs) v' w' := by
  have HZ := hide hb
  have HT := hide htab
  have HN := hide hN
  have HL0 := hide (Ln.start ho hB)
  obtain ⟨va, vc, rfl⟩ := own_shapeT ho
  obtain ⟨i0, hi, hz0, hz1, hz2⟩ := info_parts infoBT
  obtain ⟨mz, hmz⟩ : ∃ z : Int, z = (m.toNat : Int) := ⟨_, rfl⟩
  rw [← hmz]
  have HMZ := hide hmz
  have hmb : 0 ≤ mz ∧ mz < 256 := by have := UInt8.toNat_lt m; omega
  clear hb htab hN ho hmz
  go_enter Tryd.func18, Tryd.ntmps18
  go_wp2
  go_loopw [0, 11] (fun v i wr => ∃ (k : Nat), k ≤ zs.length ∧ i = .int .i64 (k : Int) ∧ Hid (Ln B w (l ++ joinL m (zs.take k)) v wr)) (fun _ i _ => zs.length - (intOf i).toNat)
  case atStart => exact ⟨0, Nat.zero_le _, rfl, by simpa [joinL] using HL0⟩
  case round =>
    obtain ⟨k, hk, rfl, HW⟩ := hrel
    obtain ⟨L, hL⟩ : ∃ L, L = l ++ joinL m (zs.take k) := ⟨_, rfl⟩
    rw [← hL] at HW
    have hLb : L.length ≤ 10000002200 := by
      rw [hL, List.length_append]
      have h1 := join_bound (m := m) (zs := zs.take k) (fun z hz => HZ.out z (mem_takeT hz))
      have h2 : (zs.take k).length ≤ zs.length := List.length_take_le' _ _
      omega
    have HLL := hide hL
    clear hL
    obtain ⟨ua, uc, rfl⟩ := HW.out.shape
    obtain ⟨n, hn⟩ : ∃ n, n = L.length := ⟨_, rfl⟩
    rw [← hn] at hLb ⊢
    have HNN := hide hn
    have HO := hide (show wr.ownsRow B 5 1 (.slice ua n uc) n (Lib.byteCells L) from by rw [hn]; exact HW.out.own)
    have HW2 := hide (show Ln B w L (.slice ua n uc) wr from by rw [hn]; exact HW.out)
    clear hn HW
    by_cases hlt : k < zs.length
    · obtain ⟨z, hz⟩ : ∃ x, zs[k]? = some x := ⟨_, List.getElem?_eq_getElem hlt⟩
      have hcr : wr.cell? ⟨b, k, none⟩ = some (.int .i64 z) := by
        rw [cell_of_row wr b k _ _ _ (HW2.out.blk HN.out (by decide))]
        simp [hz]
      have HBz := hide (HZ.out z (List.mem_of_getElem? hz))
      have HTk := hide hz
      clear hz
      by_cases hk0 : 0 < k
      · go_wp2_with (first
          | (at_builtin; refine wpList_append_own _ rfl (.tmp 18) (.tmp 20) 22 rfl B 5 i0 (.int .u8 0) 1 1 Tryd.underlying22 hi hz0 hz1 hz2 rfl (by decide) _ n _ rfl (own_below HO.out ((Below.refl _ _).alloc (Nat.le_refl _) _)) ⟨wr.heap.size, 0, none⟩ 1 1 [.int .u8 mz] rfl rfl (one_cell wr _ _) (one_one _) (by unfold maxLen; omega) (by omega) (by have := HW2.out.siz; simp; omega) ?_; intro v2 w2 o2 g2 p2)
          | (go_at_call 26; fail))
        have HA := hide (Ln.app (l2 := [m]) (n := 1) (xs := [.int .u8 mz]) (HW2.out.alloc (.cells #[.int .u8 mz] 5)) (by rw [HMZ.out]; exact ⟨rfl, rfl⟩) (by rw [← HNN.out]; exact o2) g2)
        refine (appInt B _ z HBz.out.1 HBz.out.2 v2 _ _ HA.out.own HA.out.siz (by rw [List.length_append, ← HNN.out]; simp; omega) (HT.out.on HA.out.bel)).mono ?_
        rintro e w3 ⟨v3, rfl, o3, b3, k3⟩
        have HR := hide (show Ln B w ((L ++ [m]) ++ Lib.itoa z) v3 w3 from ⟨by rw [List.length_append, Lib.byteCells_append]; exact o3, HA.out.bel.trans b3, HA.out.kept.trans k3, HA.out.le⟩)
        clear o2 g2 p2 o3 b3 k3
        go_wp2
        go_roundw
        case rel =>
          refine ⟨k + 1, by omega, by go_num, ?_⟩
          have h := HR.out
          rw [HLL.out] at h
          show Ln B w (l ++ joinL m (zs.take (k + 1))) v3 w3
          rw [join_take HTk.out hk0]
          simpa using h
        case measure => simp [intOf]; omega
      · obtain rfl : k = 0 := by omega
        go_wp2_with (go_at_call 26; fail)
        refine (appInt B _ z HBz.out.1 HBz.out.2 _ _ _ HW2.out.own HW2.out.siz (by rw [← HNN.out]; omega) (HT.out.on HW2.out.bel)).mono ?_
        rintro e w3 ⟨v3, rfl, o3, b3, k3⟩
        have HR := hide (show Ln B w (L ++ Lib.itoa z) v3 w3 from ⟨by rw [List.length_append, Lib.byteCells_append]; exact o3, HW2.out.bel.trans b3, HW2.out.kept.trans k3, HW2.out.le⟩)
        clear o3 b3 k3
        go_wp2
        go_roundw
        case rel =>
          refine ⟨1, by omega, by go_num, ?_⟩
          have h := HR.out
          rw [HLL.out] at h
          show Ln B w (l ++ joinL m (zs.take (0 + 1))) v3 w3
          rw [join_take0 HTk.out]
          simpa [joinL] using h
        case measure => simp [intOf]; omega
    · have HE := hide (show L = l ++ joinL m zs from by rw [HLL.out, List.take_of_length_le (by omega)])
      go_wp2
      go_ret
      have h := HW2.out
      rw [HE.out] at h
      exact ⟨_, rfl, h⟩
end Go.Proofs.YtnljpaohkkdjjaaDoor
