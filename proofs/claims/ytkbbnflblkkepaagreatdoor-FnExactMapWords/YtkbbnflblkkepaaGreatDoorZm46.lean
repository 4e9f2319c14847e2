/- The program's MapWords. The model's words of a map's tree: l09Words. What both answer of a tree is the same. The program's ChooseFsinfo. -/
import Derived.Test.YtkbbnflblkkepaaGreatDoorZm20
import Derived.Test.YtkbbnflblkkepaaGreatDoorZm45
import Derived.Test.YtkbbnflblkkepaaGreatDoorZm10
import Derived.Test.YtkbbnflblkkepaaGreatDoorZm17
import Derived.Deep.RegionHeld3
import Derived.Deep.MidRow
namespace Go.Proofs.YtkbbnflblkkepaaGreatDoor
set_option linter.unusedVariables false
set_option linter.unusedSimpArgs false
open Go.RowKit

theorem cpB_lenM (out : List Int) (o : Nat) (B : List Int) : (cpB out o B).length = out.length := by
  unfold cpB
  simp only [List.length_append, List.length_take, List.length_drop]
  omega
theorem cpB_mem {out : List Int} {o : Nat} {B : List Int} {z : Int} (h : z ∈ cpB out o B) : z ∈ out ∨ z ∈ B := by
  unfold cpB at h
  rcases List.mem_append.1 h with h | h
  · rcases List.mem_append.1 h with h | h
    · exact .inl (List.mem_of_mem_take h)
    · exact .inr (List.mem_of_mem_take h)
  · exact .inl (List.mem_of_mem_drop h)
theorem cont_boundM (zs : List Int) (hbd : ∀ z ∈ zs, 0 ≤ z ∧ z < 256) : ∀ (L : List HG) (out : List Int), (∀ z ∈ out, 0 ≤ z ∧ z < 256) → (L.foldl (contF (blkP zs)) out).length = out.length ∧ ∀ z ∈ L.foldl (contF (blkP zs)) out, 0 ≤ z ∧ z < 256
  | [], out, h => ⟨rfl, h⟩
  | g :: L, out, h => by
    have h1 : (contF (blkP zs) out g).length = out.length ∧ ∀ z ∈ contF (blkP zs) out g, 0 ≤ z ∧ z < 256 := by
      unfold contF
      split
      · refine ⟨cpB_lenM _ _ _, fun z hz => ?_⟩
        rcases cpB_mem hz with hz | hz
        · exact h z hz
        · exact hbd z (List.mem_of_mem_drop (List.mem_of_mem_take hz))
      · exact ⟨rfl, h⟩
    obtain ⟨a, b⟩ := cont_boundM zs hbd L (contF (blkP zs) out g) h1.2
    exact ⟨a.trans h1.1, b⟩
theorem trB_boundM (zs : List Int) (hbd : ∀ z ∈ zs, 0 ≤ z ∧ z < 256) (s : Int) (ds : List Int) (p q : Int) : (trB zs s ds p q).length ≤ 262144 ∧ ∀ z ∈ trB zs s ds p q, 0 ≤ z ∧ z < 256 := by
  unfold trB
  split
  · rename_i h
    have h1 := h.1
    unfold okR rightR at h1
    simp only [Bool.and_eq_true, decide_eq_true_eq] at h1
    obtain ⟨a, b⟩ := cont_boundM zs hbd ((upX (ZR zs s ds p q).1).map (·.1)) (List.replicate s.toNat 0) (fun z hz => by rw [List.eq_of_mem_replicate hz]; omega)
    unfold contP
    refine ⟨?_, b⟩
    rw [a, List.length_replicate]
    omega
  · exact ⟨by simp, fun z hz => by cases hz⟩
theorem toldW_nil (w : World) (a : Option Addr) (len cap : Nat) :
    Calls Tryz.prog 16 #[.slice a len cap, .nilIface] w fun e w' => e = .returned (.tuple #[.slice a len cap, .int .i64 0]) ∧ w' = w := by
  go_enter Tryz.func16, Tryz.ntmps16
  go_wp2
  go_ret2
  exact ⟨rfl, rfl⟩
theorem toldW_bad (w : World) (a : Option Addr) (len cap m lo : Nat) (ev : Value) (code : Int) (hf : Flt w lo m ev code) (hg : ErrT w) :
    Calls Tryz.prog 16 #[.slice a len cap, ev] w fun e w' => e = .returned (.tuple #[.slice none 0 0, .int .i64 code]) ∧ Below w.heap.size w w' := by
  obtain ⟨t', x', rfl⟩ := hf.iface
  have H4 := hide hf
  have HG := hide hg
  clear hf hg
  go_enter Tryz.func16, Tryz.ntmps16
  go_wp2_with (go_at_call 15; refine (codeOf_any m _ code _ _ H4.out HG.out).mono ?_; rintro e w3 ⟨rfl, hb3⟩)
  go_ret2
  exact ⟨rfl, hb3⟩
theorem drop_stepM (X : List Int) (k : Nat) (h : k < X.length) : X.drop k = X.getD k 0 :: X.drop (k + 1) := by
  rw [List.drop_eq_getElem_cons h]
  simp [List.getD, h]
/-- The map's root in a record. -/
theorem root_mapM (X : List Int) (hX : X.length = 68) : rootI (X.getD 22 0) ((X.drop 23).take 12) (X.getD 35 0) (X.getD 36 0) = (X.drop 22).take 15 := by
  rw [drop_stepM X 22 (by omega), List.take_succ_cons, show (14 : Nat) = 12 + 2 from rfl, List.take_add, List.drop_drop, show 22 + 1 = 23 from rfl, show 23 + 12 = 35 from rfl, drop_stepM X 35 (by omega), drop_stepM X 36 (by omega)]
  rfl
theorem volC_mapM (img : Value) (X : List Int) (s : Int) (hX : X.length = 68) (j : Nat) (hj : j < 15) : (volC img X s)[23 + j]? = (cellsI (rootI (X.getD 22 0) ((X.drop 23).take 12) (X.getD 35 0) (X.getD 36 0)))[j]? := by
  rw [root_mapM X hX, cellsI_get _ j (by simp [hX]; omega)]
  unfold volC
  rw [List.getElem?_toArray, List.append_assoc, List.getElem?_append_right (by simp only [List.length_singleton]; omega), List.getElem?_append_left (by simp only [List.length_singleton, List.length_map]; omega)]
  rw [show 23 + j - [img].length = 22 + j from by simp only [List.length_singleton]; omega]
  simp only [List.getD, List.getElem?_map, List.getElem?_take, List.getElem?_drop, if_pos hj]
  rw [List.getElem?_eq_getElem (by omega)]
  rfl
theorem volC_tailM (img : Value) (X : List Int) (s : Int) (hX : X.length = 68) : (volC img X s)[0]? = some img ∧ (volC img X s)[70]? = some (.int .u32 0) ∧ (volC img X s)[71]? = some (.int .i32 0) ∧ (volC img X s).size = 79 := by
  unfold volC
  refine ⟨by simp, ?_, ?_, by simp [hX, volT]⟩
  · rw [List.getElem?_toArray, List.getElem?_append_right (by simp [hX])]
    simp [hX, volT]
  · rw [List.getElem?_toArray, List.getElem?_append_right (by simp [hX])]
    simp [hX, volT]
/-- The answer: the words of the map, and the code. -/
def mapT (zs : List Int) : Int := trC zs ((choR zs).getD 22 0) (((choR zs).drop 23).take 12) ((choR zs).getD 35 0) ((choR zs).getD 36 0)
def mapL (zs : List Int) : List Int := mwW zs ((choR zs).getD 22 0) (((choR zs).drop 23).take 12) ((choR zs).getD 35 0) ((choR zs).getD 36 0)
def mapC (zs : List Int) : Int := if choC zs = 0 then (if mapT zs = 0 then (if rightM (mapL zs) = true then 0 else 21) else mapT zs) else choC zs
def mapW (zs : List Int) : List Int := if mapC zs = 0 then mapL zs else []
set_option maxRecDepth 100000 in
set_option maxHeartbeats 2000000 in
theorem implMW_any (v : Value) (zs : List Int) (w : World) (h : Rd .u8 w v zs) (hbd : ∀ z ∈ zs, 0 ≤ z ∧ z < 256) (hz : zs.length ≤ 1048576) (hg : ErrT w) (hL : LetF w) :
    Calls Tryz.prog 6 #[v] w fun e w' => ∃ sv, e = .returned (.tuple #[sv, .int .i64 (mapC zs)]) ∧ w'.ownsRow w.heap.size 3 1 sv (mapW zs).length ((mapW zs).map (Value.int .i64)) ∧ Below w.heap.size w w' := by
  have H := hide (And.intro h (And.intro hbd (And.intro hg hL)))
  obtain ⟨a, cap, rfl⟩ : ∃ a cap, v = .slice a zs.length cap := by obtain ⟨a, cap, h1, _⟩ := h; exact ⟨a, cap, h1⟩
  clear h hbd hg hL
  go_enter Tryz.func6, Tryz.ntmps6
  go_wp2_with (go_at_call 14; fail)
  refine (openVolG_any _ zs _ H.out.1 H.out.2.1 (by omega) H.out.2.2.1 H.out.2.2.2).mono ?_
  rintro e w1 ⟨hO, b1⟩
  have B1 := hide b1
  clear b1
  rcases hO with ⟨hs, ev, m, rfl, hf⟩ | ⟨hs, hc, ev, m, rfl, hf⟩ | ⟨hs, s, g, hc, rfl, kg, lg⟩
  · have HA := hide (show mapC zs = 7 ∧ mapW zs = [] from by
      have e : choC zs = 7 := by unfold choC; rw [hs]; rfl
      have e2 : mapC zs = 7 := by unfold mapC; rw [e]; rfl
      unfold mapW
      rw [e2]
      exact ⟨rfl, rfl⟩)
    obtain ⟨t', x', rfl⟩ := hf.iface
    have HF := hide hf
    clear hf hs
    go_wp2_with (first | (go_at_call 15; refine (codeOf_any m _ 7 _ _ HF.out (H.out.2.2.1.below B1.out)).mono ?_; rintro e w2 ⟨rfl, b2⟩))
    go_ret2
    rw [HA.out.1, HA.out.2]
    exact ⟨_, rfl, World.ownsRow_nil _ _ _ _, B1.out.trans (b2.mono B1.out.size)⟩
  · have HA := hide (show mapC zs = 21 ∧ mapW zs = [] from by
      have e : choC zs = 21 := by unfold choC; rw [hs, hc]; rfl
      have e2 : mapC zs = 21 := by unfold mapC; rw [e]; rfl
      unfold mapW
      rw [e2]
      exact ⟨rfl, rfl⟩)
    obtain ⟨t', x', rfl⟩ := hf.iface
    have HF := hide hf
    clear hf hs hc
    go_wp2_with (first | (go_at_call 15; refine (codeOf_any m _ 21 _ _ HF.out (H.out.2.2.1.below B1.out)).mono ?_; rintro e w2 ⟨rfl, b2⟩))
    go_ret2
    rw [HA.out.1, HA.out.2]
    exact ⟨_, rfl, World.ownsRow_nil _ _ _ _, B1.out.trans (b2.mono B1.out.size)⟩
  · have HA := hide (show choC zs = 0 ∧ choR zs = decFs (blkZ zs s) from by
      unfold choC choR; rw [hs, hc]; exact ⟨rfl, rfl⟩)
    have hX := decFs_len (blkZ zs s)
    rw [← HA.out.2] at kg hX
    have HT := volC_tailM (.slice a zs.length cap) (choR zs) (s : Int) hX
    have HM := volC_mapM (.slice a zs.length cap) (choR zs) (s : Int) hX
    have hd : (((choR zs).drop 23).take 12).length = 12 := by simp [hX]
    have HBo := trB_boundM zs H.out.2.1 ((choR zs).getD 22 0) (((choR zs).drop 23).take 12) ((choR zs).getD 35 0) ((choR zs).getD 36 0)
    have HMW := hide (mapWords_any w w1 g _ _ zs _ _ _ _ B1.out lg kg HT.2.2.2 HT.1 HM HT.2.1 HT.2.2.1 H.out.1 hz H.out.2.1 hd HBo.1 HBo.2)
    clear hs hc kg lg HT HM hd HBo hX
    go_wp2_with (go_at_call 17; fail)
    refine HMW.out.mono ?_
    rintro e w2 ⟨ra, rn, rc, ev, rfl, hcase, b2⟩
    have B2 := hide b2
    clear b2 HMW
    rcases hcase with ⟨hk, m, hf⟩ | ⟨hk, ho, hf⟩
    · replace hk : ¬ mapT zs = 0 := hk
      have HK := hide (show mapC zs = mapT zs ∧ mapW zs = [] from by
        have e2 : mapC zs = mapT zs := by unfold mapC; rw [HA.out.1, if_pos rfl, if_neg hk]
        refine ⟨e2, ?_⟩
        unfold mapW
        rw [e2, if_neg hk])
      have HF := hide hf
      obtain ⟨t', x', rfl⟩ := hf.iface
      clear hk hf
      go_wp2_with (go_at_call 16; refine (toldW_bad _ _ _ _ m _ _ _ HF.out (H.out.2.2.1.below B2.out)).mono ?_; rintro e w3 ⟨rfl, b3⟩)
      go_ret2
      rw [HK.out.1, HK.out.2]
      exact ⟨_, rfl, World.ownsRow_nil _ _ _ _, B2.out.trans (b3.mono B2.out.size)⟩
    · replace hk : mapT zs = 0 := hk
      have O2 := hide (own_mono ho B1.out.size)
      clear ho
      rcases hf with ⟨hr, rfl⟩ | ⟨hr, m, hf⟩
      · replace hr : rightM (mapL zs) = true := hr
        have HK := hide (show mapC zs = 0 ∧ mapW zs = mapL zs from by
          have e2 : mapC zs = 0 := by unfold mapC; rw [HA.out.1, if_pos rfl, if_pos hk, if_pos hr]
          refine ⟨e2, ?_⟩
          unfold mapW
          rw [e2, if_pos rfl])
        clear hk hr
        go_wp2_with (go_at_call 16; refine (toldW_nil _ _ _ _).mono ?_; rintro e w3 ⟨rfl, hw3⟩; rw [hw3]; clear hw3)
        go_ret2
        rw [HK.out.1, HK.out.2]
        exact ⟨_, rfl, O2.out, B2.out⟩
      · have HK := hide (show mapC zs = 21 ∧ mapW zs = [] from by
          have e2 : mapC zs = 21 := by unfold mapC; rw [HA.out.1, if_pos rfl, if_pos hk, if_neg (by rw [show rightM (mapL zs) = false from hr]; simp)]
          refine ⟨e2, ?_⟩
          unfold mapW
          rw [e2]
          rfl)
        have HF := hide hf
        obtain ⟨t', x', rfl⟩ := hf.iface
        clear hk hr hf
        go_wp2_with (go_at_call 16; refine (toldW_bad _ _ _ _ m _ _ 21 HF.out (H.out.2.2.1.below B2.out)).mono ?_; rintro e w3 ⟨rfl, b3⟩)
        go_ret2
        rw [HK.out.1, HK.out.2]
        exact ⟨_, rfl, World.ownsRow_nil _ _ _ _, B2.out.trans (b3.mono B2.out.size)⟩
end Go.Proofs.YtkbbnflblkkepaaGreatDoor

namespace Go.Proofs.YtkbbnflblkkepaaGreatDoor
set_option linter.unusedVariables false
set_option linter.unusedSimpArgs false
open Go.RowKit

noncomputable def mwM (zs : List Int) (s : Int) (ds : List Int) (p q : Int) : List Int := decTo (mrB zs s ds p q) ((mrB zs s ds p q).length / 4)
set_option maxRecDepth 100000 in
set_option maxHeartbeats 2000000 in
theorem words9_any (img : Value) (zs : List Int) (s : Int) (ds : List Int) (p q : Int) (w : World) (h : Rd .u8 w img zs) (h1 : zs.length ≤ 1048576) (hbd : ∀ z ∈ zs, 0 ≤ z ∧ z < 256) (hd : ds.length = 12) (hbl : (mrB zs s ds p q).length ≤ 262144) (hbb : ∀ z ∈ mrB zs s ds p q, 0 ≤ z ∧ z < 256) :
    Calls Tryz.prog 13 #[img, .agg (cellsI (rootI s ds p q))] w fun e w' => ∃ v', e = .returned (.tuple #[v', .bool (decide (mrC zs s ds p q = 0) && rightM (mwM zs s ds p q))]) ∧ (mrC zs s ds p q = 0 → w'.ownsRow w.heap.size 3 1 v' (mwM zs s ds p q).length ((mwM zs s ds p q).map (Value.int .i64))) ∧ Below w.heap.size w w' := by
  obtain ⟨i0, hi, hz0, hz1, hz2⟩ := info_parts infoI64
  have B0 := hide (show Below w.heap.size w (w.alloc (.cells (cellsI (rootI s ds p q)) 34)) from (Below.refl _ _).alloc (Nat.le_refl _) _)
  have ht := specTR_any img zs s ds p q _ (h.below B0.out) h1 hbd hd
  have HZ := hide (show (cellsI (rootI s ds p q)).size = 15 from by rw [cellsI_size]; exact rootI_len s ds p q hd)
  obtain ⟨sa, sc, rfl⟩ := rd_shapeT h
  have hm := show mwM zs s ds p q = decTo (mrB zs s ds p q) ((mrB zs s ds p q).length / 4) from rfl
  obtain ⟨bs, hbs⟩ : ∃ bs, bs = mrB zs s ds p q := ⟨_, rfl⟩
  obtain ⟨ws, hws⟩ : ∃ ws, ws = mwM zs s ds p q := ⟨_, rfl⟩
  obtain ⟨cd, hcd⟩ : ∃ cd, cd = mrC zs s ds p q := ⟨_, rfl⟩
  rw [← hws, ← hbs] at hm
  rw [← hbs, ← hcd] at ht
  rw [← hbs] at hbl hbb
  rw [← hws, ← hcd]
  have HM := hide hm
  have HT := hide ht
  clear hbs hws hcd hm ht
  clear h h1 hbd hd
  go_enter Tryz.func13, Tryz.ntmps13
  go_wp2_with (first
    | (refine wpList_load_row rfl 34 _ rfl w.heap.size rfl 34 (cellsI (rootI s ds p q)) (0, 0) _ (Blk.new w _ _) Tryz.underlying34 rfl (by rw [HZ.out]; exact info15) ?_)
    | (go_at_call 21; fail))
  refine HT.out.mono ?_
  rintro e w1 ⟨v1, rfl, o1, b1⟩
  replace b1 := B0.out.trans (b1.mono B0.out.size)
  clear HT
  have R1 := hide (Rd.own o1)
  have B1 := hide b1
  have HB := hide hbb
  clear o1 b1 hbb
  by_cases hc : cd = 0
  · subst hc
    by_cases h4 : 4 ≤ bs.length
    · obtain ⟨b, off, cap, rfl, hbw, hcl, hcm, hcell⟩ := R1.out.partsC (by omega)
      unfold maxLen at hcm
      clear hcell
      have h0 := own_empty w1 3
      have hb0 : Below w1.heap.size w1 (w1.alloc (.cells #[] 3)) := (Below.refl _ _).alloc (Nat.le_refl _) _
      go_wp2
      have hn : bs.length / 4 * 4 ≤ bs.length := by omega
      have HE := hide (show ∀ W, Below w1.heap.size w1 W → Below w.heap.size w W from fun W hW => B1.out.trans (hW.mono B1.out.size))
      have hbw1 : w.heap.size ≤ w1.heap.size := B1.out.size
      go_loopw [8, 9] (fun o i wr => ∃ k p : Nat, k ≤ bs.length / 4 ∧ p = 4 * k ∧ i = .int .i64 p ∧ wr.ownsRow w1.heap.size 3 1 o k ((decTo bs k).map (Value.int .i64)) ∧ Below w1.heap.size w1 wr) (fun _ i _ => bs.length - (intOf i).toNat)
      case atStart => exact ⟨0, 0, by omega, rfl, rfl, by simpa [decTo] using h0, hb0⟩
      case round =>
        clear h0 hb0
        obtain ⟨k, p', hk, hp, rfl, hown, hb⟩ := hrel
        have hsz := hb.size
        have HP := hide hp
        have hp2 : p' ≤ 4 * k := by omega
        have hp3 : 4 * k ≤ p' := by omega
        clear hp
        by_cases hlt : p' + 4 ≤ bs.length
        · have HC := hide (show Rd .u8 wr (.slice (some ⟨b, off + p', none⟩) 4 (cap - p')) ((bs.drop p').take 4) from (Rd.cut2 p' 4 R1.out (by omega) (by omega)).below hb)
          have HL := hide (show gval ((bs.drop p').take 4) = unle ((bs.drop (4 * k)).take 4) ∧ unle ((bs.drop (4 * k)).take 4) < 4294967296 from by
            have h1 := take4_lt bs k HB.out
            refine ⟨?_, h1⟩
            rw [HP.out, gval_small _ (by omega)])
          have HS := hide (decTo_succ bs k)
          have HO := hide hown
          have hsub : p' + 4 - p' = 4 := by omega
          clear hown
          go_wp2_with fail
          refine (get_any _ ((bs.drop p').take 4) _ (by first | exact HC.out | (rw [hsub]; exact HC.out)) (by simp; omega) (fun z hz => HB.out z (List.mem_of_mem_drop (List.mem_of_mem_take hz)))).mono ?_
          rintro e w1' ⟨rfl, rfl⟩
          rw [HL.out.1]
          generalize hy : unle ((bs.drop (4 * k)).take 4) = y at HL
          have HY := hide hy
          clear hy
          go_wp2_with (at_builtin; refine wpList_append_own _ rfl (.tmp 26) (.tmp 33) 23 rfl w1.heap.size 3 i0 (.int .i64 0) 1 8 Tryz.underlying23 hi hz0 hz1 hz2 rfl (by decide) _ _ _ rfl (HO.out.alloc _) ⟨wr.heap.size, 0, none⟩ 1 1 [.int .i64 (y : Int)] rfl rfl (cell_one_new _ _ _) (one_i64 _) (by unfold maxLen; omega) (by omega) (by simp; omega) ?_; intro v1 w2 hown1 hgr1 _)
          have HW := hide (show w2.ownsRow w1.heap.size 3 1 v1 (k + 1) ((decTo bs (k + 1)).map (Value.int .i64)) ∧ Below w1.heap.size w1 w2 from by
            refine ⟨?_, (hb.alloc hsz _).grown hgr1 (by simp; omega) (fun r h => (HO.out.lt r h).1)⟩
            rw [HS.out, List.map_append, show wordAt bs k = (y : Int) from by rw [← HY.out]; rfl]
            exact hown1)
          clear hown1 hgr1 hb HO
          go_roundw
          case rel => exact ⟨k + 1, p' + 4, by omega, by omega, by go_num, HW.out.1, HW.out.2⟩
          case measure => simp [intOf]; omega
        · have hk8 : k = bs.length / 4 := by omega
          have HW := hide (show ws = decTo bs k ∧ ws.length = k from by rw [HM.out, hk8]; exact ⟨rfl, decTo_len _ _⟩)
          clear hk8
          rw [← HW.out.1] at hown
          replace hown := (congrArg (fun n => wr.ownsRow w1.heap.size 3 1 _ n (ws.map (Value.int .i64))) HW.out.2).mpr hown
          have HO := hide (And.intro hown hb)
          have HR := hide (Rd.own hown)
          obtain ⟨oa, oc, rfl⟩ := rd_shapeT (Rd.own hown)
          clear hown hb
          go_wp2_with (go_at_call 23; refine (right_any _ ws _ HR.out).mono ?_; rintro e w0 ⟨rfl, hw0⟩; rw [hw0]; clear hw0 w0)
          go_ret2
          refine ⟨_, by first | rfl | (simp; rfl), ?_, HE.out _ HO.out.2⟩
          try intro _
          exact own_mono HO.out.1 hbw1
    · have HW := hide (show ws = [] from by rw [HM.out, show bs.length / 4 = 0 from by omega]; rfl)
      obtain ⟨oa, oc, rfl⟩ := rd_shapeT R1.out
      have hn4 : ¬ (4 ≤ bs.length) := h4
      have h0 := own_empty w1 3
      have hb0 : Below w1.heap.size w1 (w1.alloc (.cells #[] 3)) := (Below.refl _ _).alloc (Nat.le_refl _) _
      have H0 := hide (And.intro h0 (B1.out.trans (hb0.mono B1.out.size)))
      have HR := hide (show Rd .i64 (w1.alloc (.cells #[] 3)) _ [] from Rd.own (by simpa using h0))
      have hbw1 : w.heap.size ≤ w1.heap.size := B1.out.size
      clear h0 hb0
      go_wp2
      go_loopw [8, 9] (fun o i wr => o = .slice (some ⟨w1.heap.size, 0, none⟩) 0 0 ∧ i = .int .i64 0 ∧ wr = w1.alloc (.cells #[] 3)) (fun _ i _ => 0)
      case atStart => exact ⟨rfl, rfl, rfl⟩
      case round =>
        obtain ⟨rfl, rfl, rfl⟩ := hrel
        go_wp2_with (go_at_call 23; refine (right_any _ [] _ HR.out).mono ?_; rintro e w0 ⟨rfl, hw0⟩; rw [hw0]; clear hw0 w0)
        go_ret2
        rw [HW.out]
        refine ⟨_, by first | rfl | (simp; rfl), ?_, H0.out.2⟩
        try intro _
        exact own_mono H0.out.1 hbw1
  · have hq : (cd != 0) = true := by simp [hc]
    have hq2 : (cd == 0) = false := by simp [hc]
    obtain ⟨oa, oc, rfl⟩ := rd_shapeT R1.out
    have HC := hide hc
    clear hc
    go_wp2
    go_ret2
    have e : (decide (cd = 0) && rightM ws) = false := by rw [decide_eq_false HC.out]; rfl
    exact ⟨_, by first | (rw [e]; rfl) | (simp [HC.out]; rfl), fun h => absurd h HC.out, B1.out⟩
end Go.Proofs.YtkbbnflblkkepaaGreatDoor

namespace Go.Proofs.YtkbbnflblkkepaaGreatDoor
set_option linter.unusedVariables false
set_option linter.unusedSimpArgs false
open Go.RowKit

section
variable {cnt n : Nat} {W : Int → Nat → Int}
theorem tellG_is0 (r : Nat) (p : Int) : tellG cnt n W 0 r p = tell0 cnt n r p := rfl
theorem tellG_is1 (r : Nat) (p : Int) : tellG cnt n W 1 r p = tell1 cnt n W r p := by
  unfold tellG tell1
  have e : firI (0 + 1) r = 12 + r * 128 := rfl
  rw [e]
  rfl
theorem tellG_is2 (p : Int) : tellG cnt n W 2 0 p = tell2 cnt n W p := by
  unfold tellG tell2
  have e : firI (1 + 1) 0 = 140 := rfl
  rw [e]
  have e2 : (fun k => tellG cnt n W 1 (belR 1 0 k) (W p k)) = fun k => tell1 cnt n W (1 + k) (W p k) := funext fun k => by
    rw [tellG_is1]
    have : belR 1 0 k = 1 + k := by unfold belR; simp
    rw [this]
  rw [e2]
theorem allT_append : ∀ (A B : List TL), allT (A ++ B) = thenT (allT A) (allT B)
  | [], B => (thenT_nil _).symm
  | a :: A, B => by
    show thenT a (allT (A ++ B)) = _
    rw [allT_append A B]
    show _ = thenT (thenT a (allT A)) (allT B)
    rw [thenT_assoc]
theorem thenT_none (t : TL) : thenT t ([], false) = t := by
  obtain ⟨L, b⟩ := t
  cases b <;> simp [thenT]
theorem tops_tell (Pv : Nat → Int) (D : Nat → Int) (S X : Int) (hD : ∀ j, j < 12 → Pv j = D j) (hS : Pv 12 = S) (hX : Pv 13 = X) : allT (topsT cnt n W Pv) = tellR cnt n W D S X := by
  unfold topsT
  rw [show List.range 14 = List.range 12 ++ [12, 13] from rfl, List.map_append, allT_append]
  have e1 : (List.range 12).map (topT cnt n W Pv) = (List.range 12).map (fun i => tell0 cnt n i (D i)) := by
    refine List.map_congr_left (fun j hj => ?_)
    have hj' := List.mem_range.1 hj
    unfold topT topL topR
    rw [if_pos hj', if_pos hj', hD j hj', tellG_is0]
  have e2 : topT cnt n W Pv 12 = tell1 cnt n W 0 S := by
    unfold topT topL topR
    rw [if_neg (by omega), if_pos rfl, if_neg (by omega), hS, tellG_is1]
  have e3 : topT cnt n W Pv 13 = tell2 cnt n W X := by
    unfold topT topL topR
    rw [if_neg (by omega), if_neg (by omega), if_neg (by omega), hX, tellG_is2]
  rw [e1]
  show thenT _ (thenT (topT cnt n W Pv 12) (thenT (topT cnt n W Pv 13) ([], false))) = _
  rw [e2, e3, thenT_none]
  rfl
end
theorem ZR_tell (zs : List Int) (s : Int) (ds : List Int) (p q : Int) (hd : ds.length = 12) : ZR zs s ds p q = tellR ((s.toNat + 511) / 512) (zs.length / 512) (wrdP zs) (fun i => ds.getD i 0) p q :=
  tops_tell _ _ _ _ (fun j hj => ptrD hd hj) (ptr12 hd) (ptr13 hd)
theorem right_at {s : Int} {ds : List Int} {p q : Int} (h : rightR s ds p q = true) (k : Nat) (hk : k < 14) : (ds ++ [p, q]).getD k 0 = 0 ∨ lst k < (s + 511) / 512 := by
  unfold rightR at h
  rw [Bool.and_eq_true] at h
  have h2 := h.2
  unfold allR at h2
  rw [List.all_eq_true] at h2
  have h3 := h2 k (List.mem_range.2 hk)
  unfold okAt at h3
  simp only [Bool.and_eq_true, Bool.or_eq_true, decide_eq_true_eq] at h3
  exact h3.2
theorem right_rootP {s : Int} {ds : List Int} {p q : Int} (hd : ds.length = 12) (h : rightR s ds p q = true) : RootP ((s.toNat + 511) / 512) (fun i => ds.getD i 0) p q := by
  obtain ⟨h0, h1⟩ := right_size h
  refine ⟨fun i hi => ?_, fun hc => ?_, fun hc => ?_, by omega⟩
  · by_cases h12 : i < 12
    · rcases right_at h i (by omega) with h2 | h2
      · rw [ptrD hd h12] at h2; exact h2
      · unfold lst at h2
        rw [if_neg (by omega)] at h2
        omega
    · show ds.getD i 0 = 0
      rw [List.getD_eq_getElem?_getD, List.getElem?_eq_none (by omega)]; rfl
  · rcases right_at h 12 (by omega) with h2 | h2
    · rw [ptr12 hd] at h2; exact h2
    · unfold lst at h2
      rw [if_neg (by omega)] at h2
      omega
  · rcases right_at h 13 (by omega) with h2 | h2
    · rw [ptr13 hd] at h2; exact h2
    · unfold lst at h2
      rw [if_pos rfl] at h2
      omega
theorem fault_ok (zs : List Int) (s : Int) (ds : List Int) (p q : Int) : faultT zs s ds p q = if okR zs s ds p q = true then 0 else 7 := by
  unfold faultT okR
  simp only [Bool.and_eq_true]
/-- The walk tells no fault just where the model takes the tree apart. -/
theorem ZR_two {zs : List Int} {s : Int} {ds : List Int} {p q : Int} (hd : ds.length = 12) (h : okR zs s ds p q = true) :
    (apartP ((s.toNat + 511) / 512) (zs.length / 512) (wrdP zs) (fun i => ds.getD i 0) p q ∧ ZR zs s ds p q = (listR ((s.toNat + 511) / 512) (wrdP zs) (fun i => ds.getD i 0) p q, false)) ∨
    (¬ apartP ((s.toNat + 511) / 512) (zs.length / 512) (wrdP zs) (fun i => ds.getD i 0) p q ∧ (ZR zs s ds p q).2 = true) := by
  have hr : rightR s ds p q = true := by unfold okR at h; rw [Bool.and_eq_true] at h; exact h.2
  rw [ZR_tell zs s ds p q hd]
  by_cases hap : apartP ((s.toNat + 511) / 512) (zs.length / 512) (wrdP zs) (fun i => ds.getD i 0) p q
  · exact .inl ⟨hap, tellR_ok hap⟩
  · refine .inr ⟨hap, ?_⟩
    cases hz : (tellR ((s.toNat + 511) / 512) (zs.length / 512) (wrdP zs) (fun i => ds.getD i 0) p q).2 with
    | true => rfl
    | false => exact absurd (tellR_bad (right_rootP hd hr) hz) hap
theorem trC_same {zs : List Int} {s : Int} {ds : List Int} {p q : Int} (hd : ds.length = 12) : trC zs s ds p q = mrC zs s ds p q := by
  unfold trC mrC
  rw [fault_ok]
  cases hok : okR zs s ds p q with
  | false => simp
  | true =>
    rcases ZR_two hd hok with ⟨h1, h2⟩ | ⟨h1, h2⟩
    · rw [h2, if_neg (by decide), if_neg (by simp), if_neg (by simp), if_pos h1]
    · rw [if_neg (by decide), if_pos h2, if_neg (by simp), if_neg h1]
theorem fold_same {α β : Type} (f g : β → α → β) : ∀ (L : List α) (b : β), (∀ x ∈ L, ∀ b, f b x = g b x) → L.foldl f b = L.foldl g b
  | [], _, _ => rfl
  | a :: L, b, h => by
    rw [List.foldl_cons, List.foldl_cons, h a List.mem_cons_self, fold_same f g L _ (fun x hx => h x (List.mem_cons_of_mem _ hx))]
theorem blk_len {zs : List Int} {p : Int} (h : goodP (zs.length / 512) p = true) (h0 : p ≠ 0) : (blkP zs p).length = 512 := by
  have := good_pos h h0
  unfold blkP
  rw [List.length_take, List.length_drop]
  omega
theorem trB_same {zs : List Int} {s : Int} {ds : List Int} {p q : Int} (hd : ds.length = 12) : trB zs s ds p q = mrB zs s ds p q := by
  unfold trB mrB
  rw [fault_ok]
  cases hok : okR zs s ds p q with
  | false => simp
  | true =>
    have hr : rightR s ds p q = true := by unfold okR at hok; rw [Bool.and_eq_true] at hok; exact hok.2
    obtain ⟨hs0, hs1⟩ := right_size hr
    rcases ZR_two hd hok with ⟨h1, h2⟩ | ⟨h1, h2⟩
    · rw [if_pos ⟨rfl, by rw [h2]⟩, if_pos ⟨by simp, h1⟩]
      obtain ⟨cnt, hcnt⟩ : ∃ cnt, cnt = (s.toNat + 511) / 512 := ⟨_, rfl⟩
      rw [← hcnt] at h1 h2 ⊢
      have hmem : ∀ h ∈ (ZR zs s ds p q).1, GoodH cnt (zs.length / 512) h := fun h hm => by rw [hcnt]; exact tops_mem hm
      have hup : ((upX (ZR zs s ds p q).1).map (·.1)) = (ZR zs s ds p q).1 := by
        unfold upX
        rw [List.map_map]
        have e : ((fun x : TX => x.1) ∘ fun h : HG => (h, Value.nilIface)) = id := rfl
        rw [e, List.map_id]
      unfold contP
      rw [hup]
      obtain ⟨bk, hbk⟩ : ∃ bk : Int → List Int, bk = fun p => if (blkP zs p).length = 512 then blkP zs p else List.replicate 512 0 := ⟨_, rfl⟩
      have hb : ∀ p, (bk p).length = 512 := fun p => by
        rw [hbk]
        by_cases hl : (blkP zs p).length = 512
        · simp only [hl, if_true]
        · simp only [hl, if_false, List.length_replicate]
      have hsame : ∀ p, goodP (zs.length / 512) p = true → p ≠ 0 → bk p = blkP zs p := fun p h3 h4 => by
        rw [hbk]
        simp only [blk_len h3 h4, if_true]
      rw [fold_same (contF (blkP zs)) (contF bk) _ _ (fun x hx b => by
        have := hmem x hx
        unfold contF
        rw [hsame x.2.2 this.1 this.2.1])]
      rw [h2]
      rw [cont_all (W := wrdP zs) (D := fun i => ds.getD i 0) (S := p) (X := q) hb (by omega) s.toNat (by omega) (by omega)]
      congr 1
      unfold bytI
      refine flat_same _ _ _ (fun j hj => ?_)
      have hj' := List.mem_range.1 hj
      have hg := h1.2.2.2.2 j hj'
      unfold bytP datB
      by_cases h0 : datP (wrdP zs) (fun i => ds.getD i 0) p q j = 0
      · rw [if_pos h0, if_pos h0]
      · rw [if_neg h0, if_neg h0, hsame _ hg h0]
    · rw [if_neg (fun h => by rw [h2] at h; cases h.2), if_neg (fun h => h1 h.2)]
end Go.Proofs.YtkbbnflblkkepaaGreatDoor

namespace Go.Proofs.YtkbbnflblkkepaaGreatDoor
set_option linter.unusedVariables false
set_option linter.unusedSimpArgs false
open Go.RowKit

theorem results_rtt {P : Program} {fn : Func} {p t u : Tmp} {ty : TypeId} (h : fn.results = #[.cell p ty, .tmp t, .tmp u]) (tmps : Array Value) (w : World) (g : Nat) (ti : TypeId) (cs : Array Value) (fr : Nat × Nat) (d : TypeDesc) (x y : Value)
    (hp : tmps.getD p undef = .pointer (some ⟨g, 0, none⟩)) (ht : tmps.getD t undef = x) (hy : tmps.getD u undef = y) (hg : w.heap[g]? = some (.cells cs ti fr))
    (hu : P.underlying ty = some d) (hd : (match d with | .struct _ | .array _ _ => true | _ => false) = true) (hi : (P.info? ty).map (·.size) = some cs.size) :
    (results fn tmps).run P w = .ok (.tuple #[.agg cs, x, y]) w := by
  simp only [results, h]
  simp [Sem.run_bind, Result.andThen, ← Array.getD_eq_getD_getElem?, ht, hp, hy, asAddr, run_loadVar_row w g ti ty cs fr d hg hu hd hi]
theorem vol_ne {w : World} {g b : Nat} {a : Option Addr} {n c : Nat} {X : List Int} {s : Int} (hX : X.length = 68) (h : Blk w g (volC (.slice a n c) X s) 76) (k : Blk w b (cellsI noFs) 37) : g ≠ b := by
  rintro rfl
  have e := h.symm.trans k
  have e2 := Option.some.inj e
  injection e2 with e3 e4 e5
  have e6 := congrArg Array.size e3
  rw [volC_size a n c X s hX] at e6
  exact absurd e6 (by decide)

end Go.Proofs.YtkbbnflblkkepaaGreatDoor
