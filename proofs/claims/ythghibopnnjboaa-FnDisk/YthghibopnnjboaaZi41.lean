/- Draws of the device's law: an image, a choice; a copy of bytes, bytes compared. -/
import Derived.Test.YthghibopnnjboaaZi13
import Derived.Test.YthghibopnnjboaaZi40
namespace Go.Proofs.Ythghibopnnjboaa
set_option linter.unusedVariables false
set_option linter.unusedSimpArgs false
open Go.RowKit

theorem made_u8 (n : Nat) : (madeCells (Value.int .u8 0).cells (n * 1)).toList = (List.replicate n (0 : Int)).map (Value.int .u8) := by
  apply List.ext_getElem (by simp [madeCells])
  intro i h1 h2
  simp [madeCells, Value.cells, Nat.mod_one]
theorem Byt.naught (n : Nat) : Byt (List.replicate n 0) := by
  intro z hz
  rw [List.eq_of_mem_replicate hz]
  omega
set_option maxRecDepth 100000 in
set_option maxHeartbeats 4000000 in
theorem image_drawn {w0 W : World} {b : Nat} {cv : Value} {cs : List Int} (h : Sc w0 W b cv cs) :
    Calls Try.prog 6 #[.pointer (some ⟨b, 0, none⟩)] W fun e w' => ∃ (v : Value) (zs : List Int) (m : Nat), e = .returned v ∧ 64 ≤ m ∧ m ≤ 68 ∧ zs.length = m * 512 ∧ Byt zs ∧ w'.ownsRow W.heap.size 5 1 v (m * 512) (zs.map (Value.int .u8)) ∧ Sc w0 w' b cv cs ∧ W.grownBy w' (some b) := by
  obtain ⟨i0, hi, hz0, hz1, hz2⟩ := info_parts infoU8
  have HD := hide (Dn.start h)
  clear h
  go_enter Try.func6, Try.ntmps6
  go_wp2_with fail
  refine (HD.out.sc.N 5 (by omega) (by omega)).mono ?_
  rintro e w1 ⟨z, rfl, hy0, hy1, s1, d1⟩
  have H1 := hide (HD.out.draw s1 d1)
  have hs1 := d1.size
  clear s1 d1 HD
  obtain ⟨m, hm⟩ : ∃ m : Nat, (64 : Int) + z = (m : Int) := ⟨(64 + z).toNat, by omega⟩
  have hm1 : 64 ≤ m ∧ m ≤ 68 := ⟨by omega, by omega⟩
  obtain ⟨n, hn⟩ : ∃ n : Nat, (m : Int) * 512 = (n : Int) := ⟨m * 512, by omega⟩
  have HN := hide (show n = m * 512 by omega)
  have hnb : n ≤ 34816 := by omega
  go_wp2_with (first | (refine wpList_make_full _ rfl _ _ 22 rfl W.heap.size 5 i0 (.int .u8 0) 1 Try.underlying22 hi hz0 hz1 .i64 .i64 (n : Int) (n : Int) n rfl rfl rfl rfl (by rw [hz2]; omega) (by unfold maxLen; omega) hs1 ?_; intro w3 o3 g3; rw [made_u8] at o3) | fail)
  have b3 : Below w1.heap.size w1 w3 := (Below.refl _ _).grown g3 (Nat.le_refl _) (fun k e => by cases e)
  obtain ⟨g, hg⟩ : ∃ g, g = w1.heap.size := ⟨_, rfl⟩
  have H3 := hide (show Dn w0 W w3 b cv cs ∧ w3.ownsRow W.heap.size 5 1 (.slice (some ⟨g, 0, none⟩) n n) n ((List.replicate n (0 : Int)).map (Value.int .u8)) from ⟨H1.out.own (b3.mono hs1), by rw [hg]; exact o3⟩)
  have hgl : W.heap.size ≤ g ∧ g < w3.heap.size := by rw [hg]; exact ⟨hs1, by rw [hg] at H3; exact (H3.out.2.lt _ rfl).2⟩
  rw [← hg]
  clear o3 g3 b3 hg H1
  go_wp2_with fail
  refine (H3.out.1.sc.N 6 (by omega) (by omega)).mono ?_
  rintro e w4 ⟨t, rfl, ht0, ht1, s4, d4⟩
  have H4 := hide (And.intro (H3.out.1.draw s4 d4) (H3.out.1.row H3.out.2 d4 (Nat.le_refl _)))
  have hs4 := d4.size
  clear s4 d4 H3
  go_wp2
  go_loopw [5] (fun kv wx => ∃ (k : Nat) (zs : List Int), k ≤ 5 ∧ kv = .int .i64 (k : Int) ∧ zs.length = n ∧ Byt zs ∧ Dn w0 W wx b cv cs ∧ wx.ownsRow W.heap.size 5 1 (.slice (some ⟨g, 0, none⟩) n n) n (zs.map (Value.int .u8))) (fun kv _ => (intOf kv).toNat)
  case atStart => exact ⟨t.toNat, List.replicate n 0, by omega, by rw [Int.toNat_of_nonneg ht0], by simp, Byt.naught n, H4.out.1, H4.out.2⟩
  case round =>
    clear H4
    obtain ⟨k, zs, hk, rfl, hl, hB, hd, ho⟩ := hrel
    have HK := hide (And.intro hd ho)
    have HB := hide (And.intro hl hB)
    clear hd ho hl hB
    by_cases hk0 : 0 < k
    · have hkI : (0 : Int) < (k : Int) := by omega
      go_wp2_with fail
      refine (HK.out.1.sc.N m (by omega) (by omega)).mono ?_
      rintro e w5 ⟨p, rfl, hp0, hp1, s5, d5⟩
      have H5 := hide (And.intro (HK.out.1.draw s5 d5) (HK.out.1.row HK.out.2 d5 (Nat.le_refl _)))
      clear s5 d5 HK
      obtain ⟨q, rfl⟩ : ∃ q : Nat, p = (q : Int) := ⟨p.toNat, by omega⟩
      have hq : q * 512 + 512 ≤ n := by have := HN.out; omega
      go_wp2_with fail
      refine (block_drawn H5.out.1.sc).mono ?_
      rintro e w6 ⟨yv, Y, rfl, hYl, hYB, o6, s6, d6⟩
      obtain ⟨gy, cy, rfl⟩ := place_rowK o6 (by omega)
      have hgy := o6.lt gy rfl
      have hg5 := (H5.out.2.lt g rfl).2
      have H6 := hide (show Dn w0 W w6 b cv cs ∧ w6.ownsRow W.heap.size 5 1 (.slice (some ⟨g, 0, none⟩) n n) n (zs.map (Value.int .u8)) ∧ w6.ownsRow w5.heap.size 5 1 (.slice (some ⟨gy, 0, none⟩) 512 cy) 512 (Y.map (Value.int .u8)) from ⟨H5.out.1.draw s6 d6, H5.out.1.row H5.out.2 d6 (Nat.le_refl _), o6⟩)
      have HY := hide (And.intro hYl hYB)
      have hne : g ≠ gy := by omega
      clear s6 d6 o6 H5 hYl hYB hgy hg5
      go_wp2
      go_loopw [27] (fun iv wx => ∃ (i : Nat) (ys : List Int), i ≤ 512 ∧ iv = .int .i64 (i : Int) ∧ ys.length = n ∧ Byt ys ∧ Dn w0 W wx b cv cs ∧ wx.ownsRow W.heap.size 5 1 (.slice (some ⟨g, 0, none⟩) n n) n (ys.map (Value.int .u8)) ∧ wx.ownsRow w5.heap.size 5 1 (.slice (some ⟨gy, 0, none⟩) 512 cy) 512 (Y.map (Value.int .u8))) (fun iv _ => 512 - (intOf iv).toNat)
      case atStart => exact ⟨0, zs, by omega, rfl, HB.out.1, HB.out.2, H6.out.1, H6.out.2.1, H6.out.2.2⟩
      case round =>
        clear H6
        obtain ⟨i, ys, hi5, rfl, hl, hB, hd, ho, hoy⟩ := hrel
        have HX := hide (And.intro hd (And.intro ho hoy))
        have HBy := hide (And.intro hl hB)
        clear hd ho hoy hl hB
        by_cases hlt : i < 512
        · have hiI : (i : Int) < 512 := by omega
          obtain ⟨y, hy⟩ : ∃ y, y = Y.getD i 0 := ⟨_, rfl⟩
          have hyb : 0 ≤ y ∧ y < 256 := by
            rw [hy]
            have := HY.out.2 _ (List.getElem_mem (show i < Y.length by rw [HY.out.1]; exact hlt))
            simpa [List.getD, show i < Y.length by rw [HY.out.1]; exact hlt] using this
          have cY : wr.cell? ⟨gy, i, none⟩ = some (.int .u8 y) := by
            have := HX.out.2.2.cells (g := gy) rfl i (.int .u8 y) (by rw [List.getElem?_map, List.getElem?_eq_getElem (by rw [HY.out.1]; exact hlt), hy]; simp [List.getD, show i < Y.length by rw [HY.out.1]; exact hlt])
            rw [Addr.add_mid, Nat.zero_add] at this
            exact this
          obtain ⟨⟨c, cg⟩, fg⟩ := own_cellB HX.out.2.1 (show q * 512 + i < n by omega)
          have H7 := hide (show Dn w0 W (wr.setCell ⟨g, q * 512 + i, none⟩ (.int .u8 y)) b cv cs ∧ (wr.setCell ⟨g, q * 512 + i, none⟩ (.int .u8 y)).ownsRow W.heap.size 5 1 (.slice (some ⟨g, 0, none⟩) n n) n ((ys.set (q * 512 + i) y).map (Value.int .u8)) ∧ (wr.setCell ⟨g, q * 512 + i, none⟩ (.int .u8 y)).ownsRow w5.heap.size 5 1 (.slice (some ⟨gy, 0, none⟩) 512 cy) 512 (Y.map (Value.int .u8)) from ⟨HX.out.1.put hgl.1 _, own_setB HX.out.2.1 _, own_setD HX.out.2.2 (fun e => hne (Option.some.inj e).symm)⟩)
          have HY7 := hide (show (ys.set (q * 512 + i) y).length = n ∧ Byt (ys.set (q * 512 + i) y) from ⟨by rw [List.length_set]; exact HBy.out.1, HBy.out.2.put _ hyb.1 hyb.2⟩)
          clear hy hyb
          go_wp2
          go_roundw
          case rel => exact ⟨i + 1, _, by omega, by go_num, HY7.out.1, HY7.out.2, H7.out.1, H7.out.2.1, H7.out.2.2⟩
          case measure => simp [intOf]; omega
        · have hi2 : i = 512 := by omega
          subst hi2
          go_wp2
          go_roundw
          case rel => exact ⟨k - 1, ys, by omega, by go_num, HBy.out.1, HBy.out.2, HX.out.1, HX.out.2.1⟩
          case measure => simp [intOf]; omega
    · have hk2 : k = 0 := by omega
      subst hk2
      go_wp2
      go_ret
      exact ⟨_, zs, m, rfl, hm1.1, hm1.2, by rw [← HN.out]; exact HB.out.1, HB.out.2, by rw [← HN.out]; exact HK.out.2, HK.out.1.sc, HK.out.1.gb⟩
theorem cpK_any (v : Value) (zs : List Int) (w : World) (h : Rd .u8 w v zs) (hn : zs.length ≤ 262144) :
    Calls Try.prog 10 #[v] w fun e w' => ∃ v', e = .returned v' ∧ w'.ownsRow w.heap.size 5 1 v' zs.length (zs.map (Value.int .u8)) ∧ Below w.heap.size w w' := by
  obtain ⟨i0, hi, hz0, hz1, hz2⟩ := info_parts infoU8
  obtain ⟨a, cap, rfl⟩ := rd_shape h
  have HR := hide h.srcM
  clear h
  go_enter Try.func10, Try.ntmps10
  go_wp2_with (first | (at_builtin; refine wpList_append_copyM w rfl (.tmp 3) (.tmp 4) 22 rfl 5 i0 (.int .u8 0) 1 1 Try.underlying22 hi hz0 hz1 hz2 rfl (by decide) rfl a zs.length cap (zs.map (Value.int .u8)) rfl (by simp) HR.out (ints_oneCell _ _) (by unfold maxLen; omega) (by omega) ?_; intro v1 w1 o1 b1; have O1 := hide (And.intro o1 b1); clear o1 b1) | fail)
  go_ret
  exact ⟨_, rfl, O1.out.1, O1.out.2⟩
theorem conv_rdK {w : World} {v : Value} {xs : List Int} (h : Rd .u8 w v xs) : (convert 22 9 v).run Try.prog w = .ok (.string (strOfNums xs)) w := by
  obtain ⟨a, cap, rfl, hm, hc, h1, h2⟩ := h
  by_cases hne : xs = []
  · subst hne
    rw [run_convert_bytes_string w 22 9 5 _ _ cap Try.underlying22 Try.underlying5 Try.underlying9]
    cases a with
    | none => simp [Conv.bytesToString]; rfl
    | some ad =>
      exact run_bytesToString w ad 0 cap [] (by simpa using run_loadCells_list (P := Try.prog) w ad [] (by simp))
  · obtain ⟨b, off, rfl, _, hcell⟩ := hc hne
    exact run_convert_bytes_arg w 22 5 Try.underlying22 Try.underlying5 b off xs.length cap xs rfl hcell 9 Try.underlying9
theorem wpList_convK {ops : Array Oper} {rest : List Oper} {o : Oper} {a : Act} {w : World} {Q : Exit → Act → World → Prop} (hgd : o.guard = none) (x : Operand) (ho : o.op = .convert 22 9 x) (v : Value) (hx : a.eval x = v) (xs : List Int) (hr : Rd .u8 w v xs)
    (h : wpList Try.prog ops Q rest (a.put o.dst (.string (strOfNums xs))) w) : wpList Try.prog ops Q (o :: rest) a w := by
  refine wpList_plain hgd fun K hK => ?_
  unfold Oper.wp execOp
  simp only [ho, hx, Sem.run_bind, Sem.run_pure, Result.andThen_ok, conv_rdK hr]
  exact hK _ _ h
theorem smK_any (v u : Value) (xs ys : List Int) (w : World) (h : Rd .u8 w v xs) (k : Rd .u8 w u ys) :
    Calls Try.prog 12 #[v, u] w fun e w' => ∃ t : Bool, e = .returned (.bool t) ∧ (xs = ys → t = true) ∧ w' = w := by
  have H := hide h
  have K := hide k
  clear h k
  go_enter Try.func12, Try.ntmps12
  go_wp2_with (first | (refine wpList_convK rfl _ rfl v rfl xs H.out ?_) | (refine wpList_convK rfl _ rfl u rfl ys K.out ?_) | fail)
  go_ret
  exact ⟨_, rfl, fun e => by subst e; simp, rfl⟩
end Go.Proofs.Ythghibopnnjboaa
