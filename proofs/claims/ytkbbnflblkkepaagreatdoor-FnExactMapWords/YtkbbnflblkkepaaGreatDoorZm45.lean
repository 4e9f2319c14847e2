/- The program opens a volume: openVolume. A volume that was opened lies in new memory. -/
import Derived.Test.YtkbbnflblkkepaaGreatDoorZm44
import Derived.BigQuiet
import Derived.Deep.QuietTactic
import Derived.Great.BuildSlice
import Derived.Deep.Cut
namespace Go.Proofs.YtkbbnflblkkepaaGreatDoor
set_option linter.unusedVariables false
set_option linter.unusedSimpArgs false
open Go.RowKit

theorem fold_setL (off : Nat) : ∀ (vs : List Value) (n : Nat) (L : List Value), off + n + vs.length ≤ L.length → (vs.zipIdx n).foldl (fun (cs : Array Value) (p : Value × Nat) => cs.setIfInBounds (off + p.2) p.1) L.toArray = (L.take (off + n) ++ vs ++ L.drop (off + n + vs.length)).toArray
  | [], n, L, h => by simp
  | v :: vs, n, L, h => by
    have hlt : off + n < L.length := by simp at h; omega
    rw [List.zipIdx_cons, List.foldl_cons, List.setIfInBounds_toArray, fold_setL off vs (n + 1) _ (by simp at h ⊢; omega)]
    congr 1
    have e : L.set (off + n) v = L.take (off + n) ++ v :: L.drop (off + n + 1) := by rw [List.set_eq_take_append_cons_drop, if_pos hlt]
    have hl : (L.take (off + n)).length = off + n := by simp; omega
    rw [show off + (n + 1) = off + n + 1 by omega, e]
    have e1 : (L.take (off + n) ++ v :: L.drop (off + n + 1)).take (off + n + 1) = L.take (off + n) ++ [v] := by
      rw [List.take_append, hl, show off + n + 1 - (off + n) = 1 by omega, List.take_of_length_le (by omega)]
      rfl
    have e2 : (L.take (off + n) ++ v :: L.drop (off + n + 1)).drop (off + n + 1 + vs.length) = L.drop (off + n + (v :: vs).length) := by
      rw [List.drop_append, hl, List.drop_of_length_le (by omega), List.nil_append, show off + n + 1 + vs.length - (off + n) = vs.length + 1 by omega, List.drop_succ_cons, List.drop_drop]
      congr 1
      simp
      omega
    rw [e1, e2]
    simp
theorem fill_one (p : Nat → Option (Nat × Nat)) (i off : Nat) (v : Value) (vs L : List Value) (rest : List (Nat × Value)) (hp : p i = some (off, vs.length)) (hv : v.cells = vs.toArray) (hl : off + vs.length ≤ L.length) :
    Instr.fill p L.toArray ((i, v) :: rest) = Instr.fill p (L.take off ++ vs ++ L.drop (off + vs.length)).toArray rest := by
  have hf : (vs.toArray.zipIdx.foldl (fun (cs : Array Value) (p : Value × Nat) => cs.setIfInBounds (off + p.2) p.1) L.toArray) = (L.take off ++ vs ++ L.drop (off + vs.length)).toArray := by
    rw [← Array.foldl_toList, Array.toList_zipIdx]
    exact fold_setL off vs 0 L (by omega)
  rw [Instr.fill, hp]
  simp only [hv]
  rw [if_neg (by simp; omega)]
  rw [← hf]
def volT (s : Int) : List Value := [.int .i64 s, .int .u32 0, .int .i32 0, .int .u32 0, .slice none 0 0, .nilIface, .int .u32 0, .int .i32 0, .int .u32 0, .nilFunc]
/-- The cells of a volume that was just opened. -/
def volC (img : Value) (X : List Int) (s : Int) : Array Value := ([img] ++ X.map (Value.int .i64) ++ volT s).toArray
def placesV : List (Nat × Nat) := [(0, 1), (1, 68), (69, 1), (70, 3), (73, 1), (74, 1), (75, 3), (78, 1)]
def zeroV : List Value := [Value.slice none 0 0] ++ (List.replicate 68 (0 : Int)).map (Value.int .i64) ++ volT 0
theorem built_parts (parts : List (Nat × Value)) : Tryz.prog.built 76 parts = Instr.fill (placesV.toArray[·]?) zeroV.toArray parts := by kernel_rfl
theorem built_vol (a : Option Addr) (n c : Nat) (X : List Int) (s : Int) (hX : X.length = 68) : Tryz.prog.built 76 [(0, .slice a n c), (1, .agg (cellsI X)), (2, .int .i64 s)] = some (volC (.slice a n c) X s) := by
  rw [built_parts]
  rw [fill_one _ 0 0 (.slice a n c) [.slice a n c] zeroV _ rfl rfl (by simp [zeroV, volT])]
  have e1 : zeroV.take 0 ++ [Value.slice a n c] ++ zeroV.drop (0 + [Value.slice a n c].length) = [Value.slice a n c] ++ ((List.replicate 68 (0 : Int)).map (Value.int .i64) ++ volT 0) := rfl
  rw [e1]
  rw [fill_one _ 1 1 (.agg (cellsI X)) (X.map (Value.int .i64)) _ _ (by rw [List.length_map, hX]; rfl) rfl (by simp [hX, volT])]
  have e2 : ([Value.slice a n c] ++ ((List.replicate 68 (0 : Int)).map (Value.int .i64) ++ volT 0)).take 1 ++ X.map (Value.int .i64) ++ ([Value.slice a n c] ++ ((List.replicate 68 (0 : Int)).map (Value.int .i64) ++ volT 0)).drop (1 + (X.map (Value.int .i64)).length) = ([Value.slice a n c] ++ X.map (Value.int .i64)) ++ volT 0 := by
    rw [List.length_map, hX]
    rfl
  rw [e2]
  rw [fill_one _ 2 69 (.int .i64 s) [.int .i64 s] _ _ rfl rfl (by simp [hX, volT])]
  have hl : ([Value.slice a n c] ++ X.map (Value.int .i64)).length = 69 := by simp [hX]
  rw [List.take_append_of_le_length (by omega), List.take_of_length_le (by omega), List.drop_append, hl, List.drop_of_length_le (by simp [hX])]
  rw [Instr.fill]
  congr 1
  unfold volC volT
  simp
theorem infoV : (Tryz.prog.info? 76).map (·.size) = some 79 := by kernel_rfl
theorem volC_size (a : Option Addr) (n c : Nat) (X : List Int) (s : Int) (hX : X.length = 68) : (volC (.slice a n c) X s).size = 79 := by simp [volC, volT, hX]
theorem vol_at {w : World} {g : Nat} {t : TypeId} {img : Value} {X : List Int} {s : Int} (h : Blk w g (volC img X s) t) (i : Nat) (hi : i < X.length) : w.cell? ⟨g, 1 + i, none⟩ = some (.int .i64 (X.getD i 0)) := by
  rw [h.cell (1 + i)]
  unfold volC
  rw [List.getElem?_toArray, List.append_assoc, List.getElem?_append_right (by simp), List.getElem?_append_left (by simp; omega)]
  simp [List.getD, hi]
theorem vol_slot {w : World} {g : Nat} {t : TypeId} {img : Value} {X : List Int} {s : Int} (h : Blk w g (volC img X s) t) (hX : X.length = 68) : w.cell? ⟨g, 69, none⟩ = some (.int .i64 s) := by
  rw [h.cell 69]
  unfold volC
  rw [List.getElem?_toArray, List.getElem?_append_right (by simp [hX])]
  simp [hX, volT]
theorem vol_range {w : World} {g : Nat} {t : TypeId} {img : Value} {X : List Int} {s : Int} (h : Blk w g (volC img X s) t) : w.rangeAt g 1 (X.map (Value.int .i64)) := by
  intro j v hv
  have hj : j < X.length := by
    rcases Nat.lt_or_ge j X.length with h | h
    · exact h
    · rw [List.getElem?_eq_none (by simpa using h)] at hv; cases hv
  rw [vol_at h j hj, ← hv]
  simp [List.getD, hj]
/-- The volume so far: none, or that of the block chosen. -/
def ChP (wr : World) (img : Value) (zs : List Int) (st : Option Nat) (cv : Value) : Prop := match st with
  | none => cv = .pointer none
  | some s => ∃ g, cv = .pointer (some ⟨g, 0, none⟩) ∧ Blk wr g (volC img (decFs (blkZ zs s)) (s : Int)) 76
theorem ChP.below {wr w' : World} {img : Value} {zs : List Int} {st : Option Nat} {cv : Value} (h : ChP wr img zs st cv) (hb : Below wr.heap.size wr w') : ChP w' img zs st cv := by
  cases st with
  | none => exact h
  | some s =>
    obtain ⟨g, h1, h2⟩ := h
    exact ⟨g, h1, h2.below hb h2.lt⟩
/-- What openVolume tells. -/
def OpenV (w w' : World) (img : Value) (zs : List Int) (e : Ending) : Prop :=
  (szOk zs.length = false ∧ ∃ ev m, e = .returned (.tuple #[.pointer none, ev]) ∧ Flt w' w.heap.size m ev 7) ∨
  (szOk zs.length = true ∧ chz zs 2 = none ∧ ∃ ev m, e = .returned (.tuple #[.pointer none, ev]) ∧ Flt w' w.heap.size m ev 21) ∨
  (szOk zs.length = true ∧ ∃ s g, chz zs 2 = some s ∧ e = .returned (.tuple #[.pointer (some ⟨g, 0, none⟩), .nilIface]) ∧ Blk w' g (volC img (decFs (blkZ zs s)) (s : Int)) 76)

set_option maxRecDepth 100000 in
set_option maxHeartbeats 4000000 in
theorem openVol_any (v : Value) (zs : List Int) (w : World) (h : Rd .u8 w v zs) (hbd : ∀ z ∈ zs, 0 ≤ z ∧ z < 256) (hz : zs.length ≤ 140737488355328) (hg : ErrT w) (hL : LetF w) :
    Calls Tryz.prog 14 #[v] w fun e w' => OpenV w w' v zs e ∧ Below w.heap.size w w' := by
  have HR := hide (And.intro h (And.intro hg hL))
  have HB := hide hbd
  obtain ⟨a, cap, rfl⟩ : ∃ a cap, v = .slice a zs.length cap := by obtain ⟨a, cap, h1, _⟩ := h; exact ⟨a, cap, h1⟩
  clear h hbd hg hL
  cases hs : szOk zs.length with
  | false =>
    have HS := hide hs
    clear hs
    go_enter Tryz.func14, Tryz.ntmps14
    go_wp2_with (go_at_call 24; fail)
    refine (rightInSize_any _ zs _ HR.out.1 hz).mono ?_
    rintro e w1 ⟨rfl, rfl⟩
    rw [HS.out]
    go_wp2
    go_ret2
    refine ⟨.inl ⟨HS.out, _, 0, rfl, ⟨w.heap.size, rfl, Nat.le_refl _, ?_⟩⟩, (Below.refl _ _).alloc (Nat.le_refl _) _⟩
    simp
  | true =>
    have HS := hide hs
    have hlen := szOk_len hs
    clear hs
    go_enter Tryz.func14, Tryz.ntmps14
    go_wp2_with (go_at_call 24; fail)
    refine (rightInSize_any _ zs _ HR.out.1 hz).mono ?_
    rintro e w1 ⟨rfl, rfl⟩
    rw [HS.out]
    go_wp2
    go_loopw [4, 14] (fun c i wr => ∃ k : Nat, k ≤ 2 ∧ i = .int .i64 k ∧ ChP wr (.slice a zs.length cap) zs (chz zs k) c ∧ Below w.heap.size w wr) (fun _ i _ => 2 - (intOf i).toNat)
    case atStart => exact ⟨0, by omega, rfl, rfl, Below.refl _ _⟩
    case round =>
      obtain ⟨k, hk, rfl, hc, hb⟩ := hrel
      have HC := hide hc
      have HBw := hide hb
      clear hc hb
      by_cases hlt : k < 2
      · have HRk := hide (HR.out.1.below HBw.out)
        go_wp2_with (go_at_call 26; fail)
        refine (bytesAt_any _ zs k _ HRk.out (by omega) hz).mono ?_
        rintro e w2 ⟨sv, rfl, hsv, rfl⟩
        have HSv := hide hsv
        clear hsv
        go_wp2_with (go_at_call 25; fail)
        refine (implDFs_same _ (blkZ zs k) _ HSv.out (blkZ_bd HB.out k) (by rw [blkZ_len (by omega)]; omega) (HR.out.2.1.below HBw.out) (HR.out.2.2.below HBw.out)).mono ?_
        rintro e w3 ⟨rfl, b3⟩
        have HC3 := hide (HC.out.below b3)
        have B3 := hide (HBw.out.trans (b3.mono HBw.out.size))
        have HD := hide (decFs_len (blkZ zs k))
        have HTk := hide (show takeZ zs (chz zs k) k = (goodZ zs k && (match chz zs k with | none => true | some s => decide (genZ zs s < genZ zs k))) from rfl)
        have HGd := hide (show goodZ zs k = (decide (codeDF (blkZ zs k) = 0) && decide (blZ zs k = ((zs.length / 512 : Nat) : Int))) from rfl)
        have HNx := hide (show chz zs (k + 1) = if takeZ zs (chz zs k) k = true then some k else chz zs k from rfl)
        have HBl := hide (show (decFs (blkZ zs k)).getD 1 0 = blZ zs k from rfl)
        have HGn := hide (show (decFs (blkZ zs k)).getD 0 0 = genZ zs k from rfl)
        have HVl := hide (fun (wv : World) (gv : Nat) (hb : Blk wv gv (volC (.slice a zs.length cap) (decFs (blkZ zs k)) (k : Int)) 76) => show ChP wv (.slice a zs.length cap) zs (some k) (.pointer (some ⟨gv, 0, none⟩)) from ⟨gv, rfl, hb⟩)
        have HBu := hide (built_vol a zs.length cap (decFs (blkZ zs k)) (k : Int) HD.out)
        have HVs := hide (volC_size a zs.length cap (decFs (blkZ zs k)) (k : Int) HD.out)
        clear b3 HC HSv HRk
        obtain ⟨cd, hcd⟩ : ∃ cd, cd = codeDF (blkZ zs k) := ⟨_, rfl⟩
        rw [← hcd] at HGd ⊢
        clear hcd
        obtain ⟨X, hX⟩ : ∃ X, X = decFs (blkZ zs k) := ⟨_, rfl⟩
        rw [← hX] at HD HBl HGn HVl HBu HVs ⊢
        clear hX
        obtain ⟨st, hst⟩ : ∃ st, st = chz zs k := ⟨_, rfl⟩
        rw [← hst] at HC3 HTk HNx
        clear hst
        obtain ⟨bl, hbl⟩ : ∃ bl, bl = blZ zs k := ⟨_, rfl⟩
        rw [← hbl] at HBl HGd
        obtain ⟨gn, hgn⟩ : ∃ gn, gn = genZ zs k := ⟨_, rfl⟩
        rw [← hgn] at HGn HTk
        clear hbl hgn
        have HZ := hide (show (cellsI X).size = 68 from by rw [cellsI_size]; exact HD.out)
        have K4 := hide (show Blk ((w3.alloc (.cells Tryz.zeroCells37 37)).setRow w3.heap.size (cellsI X)) w3.heap.size (cellsI X) 37 ∧ Below w3.heap.size w3 ((w3.alloc (.cells Tryz.zeroCells37 37)).setRow w3.heap.size (cellsI X)) from ⟨(Blk.new w3 Tryz.zeroCells37 37).row _, below_setRow ((Below.refl _ _).alloc (Nat.le_refl _) _) (Nat.le_refl _) _⟩)
        have c4 : ((w3.alloc (.cells Tryz.zeroCells37 37)).setRow w3.heap.size (cellsI X)).cell? ⟨w3.heap.size, 1, none⟩ = some (.int .i64 bl) := by rw [← HBl.out]; exact (K4.out.1.cell 1).trans (cellsI_get X 1 (by rw [HD.out]; omega))
        have d4 : ((w3.alloc (.cells Tryz.zeroCells37 37)).setRow w3.heap.size (cellsI X)).cell? ⟨w3.heap.size, 0, none⟩ = some (.int .i64 gn) := by rw [← HGn.out]; exact (K4.out.1.cell 0).trans (cellsI_get X 0 (by rw [HD.out]; omega))
        have HC4 := hide (HC3.out.below K4.out.2)
        have B4 := hide (B3.out.trans (K4.out.2.mono B3.out.size))
        clear HC3 B3 HBw
        by_cases hcd : cd = 0
        · have hq1 : (cd != 0) = false := by simp [hcd]
          by_cases hbl : bl = ((zs.length / 512 : Nat) : Int)
          · have hq2 : (bl != (zs.length : Int) / 512) = false := by rw [hbl]; simp
            have HG1 := hide (show goodZ zs k = true from by rw [HGd.out, decide_eq_true hcd, decide_eq_true hbl]; rfl)
            clear hcd hbl HGd
            cases st with
            | none =>
              have HN2 := hide (show chz zs (k + 1) = some k from by rw [HNx.out, HTk.out, HG1.out]; rfl)
              have hcv := HC4.out
              unfold ChP at hcv
              subst hcv
              clear HNx HTk HC4
              go_wp2_with (refine wpList_store_row rfl 37 _ _ rfl w3.heap.size (cellsI X) rfl rfl 37 _ (Blk.new w3 Tryz.zeroCells37 37) (by rw [HZ.out]; exact info68) (by rw [HZ.out]; rfl) (cellsI_one _) ?_; generalize (w3.alloc (.cells Tryz.zeroCells37 37)).setRow w3.heap.size (cellsI X) = w4 at K4 c4 d4 B4 ⊢)
              go_quiet (fail)
              go_wp2_with (first | (refine wpList_load_row rfl 37 _ rfl w3.heap.size rfl 37 (cellsI X) (0, 0) _ K4.out.1 Tryz.underlying37 rfl (by rw [HZ.out]; exact info68) ?_) | (refine wpList_buildTo rfl 76 _ rfl (some 49) rfl (volC (.slice a zs.length cap) X (k : Int)) (by simp only [List.map_toArray, List.map_cons, List.map_nil]; exact HBu.out) ?_))
              go_roundw
              case rel => exact ⟨k + 1, by omega, by go_num, by rw [HN2.out]; exact HVl.out _ _ (Blk.new _ _ _), by first | exact (Go.below_drewN B4.out _).alloc B4.out.size _ | exact B4.out.drew.alloc B4.out.size _ | exact B4.out.alloc B4.out.size _⟩
              case measure => simp [intOf]; omega
            | some s =>
              obtain ⟨g5, hcv, k5⟩ := HC4.out
              subst hcv
              have d5 := vol_at k5 0 (by rw [decFs_len]; omega)
              rw [show (decFs (blkZ zs s)).getD 0 0 = genZ zs s from rfl] at d5
              obtain ⟨gs, hgs⟩ : ∃ gs, gs = genZ zs s := ⟨_, rfl⟩
              have HTk2 := hide (show takeZ zs (some s) k = (goodZ zs k && decide (gs < gn)) from by rw [HTk.out, hgs])
              rw [← hgs] at d5
              have K5 := hide k5
              clear hgs k5 HTk
              by_cases hgt : gs < gn
              · have hq3 : decide (gs < gn) = true := by simp [hgt]
                have HN2 := hide (show chz zs (k + 1) = some k from by rw [HNx.out, HTk2.out, HG1.out, hq3]; rfl)
                clear HNx HTk2 HC4 K5 hgt
                go_wp2_with (refine wpList_store_row rfl 37 _ _ rfl w3.heap.size (cellsI X) rfl rfl 37 _ (Blk.new w3 Tryz.zeroCells37 37) (by rw [HZ.out]; exact info68) (by rw [HZ.out]; rfl) (cellsI_one _) ?_; generalize (w3.alloc (.cells Tryz.zeroCells37 37)).setRow w3.heap.size (cellsI X) = w4 at K4 c4 d4 d5 B4 ⊢)
                go_quiet (fail)
                go_wp2_with (first | (refine wpList_load_row rfl 37 _ rfl w3.heap.size rfl 37 (cellsI X) (0, 0) _ K4.out.1 Tryz.underlying37 rfl (by rw [HZ.out]; exact info68) ?_) | (refine wpList_buildTo rfl 76 _ rfl (some 49) rfl (volC (.slice a zs.length cap) X (k : Int)) (by simp only [List.map_toArray, List.map_cons, List.map_nil]; exact HBu.out) ?_))
                go_roundw
                case rel => exact ⟨k + 1, by omega, by go_num, by rw [HN2.out]; exact HVl.out _ _ (Blk.new _ _ _), by first | exact (Go.below_drewN B4.out _).alloc B4.out.size _ | exact B4.out.drew.alloc B4.out.size _ | exact B4.out.alloc B4.out.size _⟩
                case measure => simp [intOf]; omega
              · have hq3 : decide (gs < gn) = false := by simp; omega
                have HN2 := hide (show chz zs (k + 1) = some s from by rw [HNx.out, HTk2.out, HG1.out, hq3]; rfl)
                clear HNx HTk2 hgt HVl HBu HVs
                have HC5 := hide (show ∀ w9, Below ((w3.alloc (.cells Tryz.zeroCells37 37)).setRow w3.heap.size (cellsI X)).heap.size ((w3.alloc (.cells Tryz.zeroCells37 37)).setRow w3.heap.size (cellsI X)) w9 → ChP w9 (.slice a zs.length cap) zs (some s) (.pointer (some ⟨g5, 0, none⟩)) from fun w9 hb => HC4.out.below hb)
                clear HC4 K5
                go_wp2_with (refine wpList_store_row rfl 37 _ _ rfl w3.heap.size (cellsI X) rfl rfl 37 _ (Blk.new w3 Tryz.zeroCells37 37) (by rw [HZ.out]; exact info68) (by rw [HZ.out]; rfl) (cellsI_one _) ?_; generalize (w3.alloc (.cells Tryz.zeroCells37 37)).setRow w3.heap.size (cellsI X) = w4 at K4 c4 d4 d5 HC5 B4 ⊢)
                go_quiet (fail)
                go_wp2
                go_roundw
                case rel => exact ⟨k + 1, by omega, by go_num, by rw [HN2.out]; exact HC5.out _ (by first | exact belD (Below.refl _ _) _ | exact Go.below_drewN (Below.refl _ _) _ | exact (Below.refl _ _).drew), by first | exact Go.below_drewN B4.out _ | exact B4.out.drew | exact B4.out⟩
                case measure => simp [intOf]; omega
          · have hq2 : (bl != (zs.length : Int) / 512) = true := by simp; omega
            have HN2 := hide (show chz zs (k + 1) = st from by rw [HNx.out, HTk.out, HGd.out, decide_eq_false hbl, Bool.and_false, Bool.false_and]; rfl)
            clear HNx HTk HGd HBu HVs HVl
            go_wp2_with (refine wpList_store_row rfl 37 _ _ rfl w3.heap.size (cellsI X) rfl rfl 37 _ (Blk.new w3 Tryz.zeroCells37 37) (by rw [HZ.out]; exact info68) (by rw [HZ.out]; rfl) (cellsI_one _) ?_; generalize (w3.alloc (.cells Tryz.zeroCells37 37)).setRow w3.heap.size (cellsI X) = w4 at K4 c4 d4 HC4 B4 ⊢)
            go_roundw
            case rel => exact ⟨k + 1, by omega, by go_num, by rw [HN2.out]; exact HC4.out, B4.out⟩
            case measure => simp [intOf]; omega
        · have hq1 : (cd != 0) = true := by simp [hcd]
          have HN2 := hide (show chz zs (k + 1) = st from by rw [HNx.out, HTk.out, HGd.out, decide_eq_false hcd, Bool.false_and, Bool.false_and]; rfl)
          clear HNx HTk HGd HBu HVs HVl
          go_wp2_with (refine wpList_store_row rfl 37 _ _ rfl w3.heap.size (cellsI X) rfl rfl 37 _ (Blk.new w3 Tryz.zeroCells37 37) (by rw [HZ.out]; exact info68) (by rw [HZ.out]; rfl) (cellsI_one _) ?_; generalize (w3.alloc (.cells Tryz.zeroCells37 37)).setRow w3.heap.size (cellsI X) = w4 at K4 c4 d4 HC4 B4 ⊢)
          go_roundw
          case rel => exact ⟨k + 1, by omega, by go_num, by rw [HN2.out]; exact HC4.out, B4.out⟩
          case measure => simp [intOf]; omega
      · have hk2 : k = 2 := by omega
        subst hk2
        have HS2 := hide (show szOk zs.length = true from HS.out)
        cases hst : chz zs 2 with
        | none =>
          have hcv := HC.out
          rw [hst] at hcv
          unfold ChP at hcv
          subst hcv
          have HST := hide hst
          clear hst HC
          go_wp2
          go_ret2
          refine ⟨.inr (.inl ⟨HS2.out, HST.out, _, 1, rfl, ⟨wr.heap.size + 1, _, rfl, ?_, ?_, ⟨wr.heap.size, rfl, HBw.out.size, ?_⟩⟩⟩), (HBw.out.alloc HBw.out.size _).alloc ?_ _⟩
          · have := HBw.out.size; omega
          · simp
          · simp
          · have := HBw.out.size; simp; omega
        | some s =>
          have hcv := HC.out
          rw [hst] at hcv
          obtain ⟨g, hcv, kg⟩ := hcv
          subst hcv
          have KG := hide (And.intro hst kg)
          clear hst kg HC
          go_wp2
          go_ret2
          exact ⟨.inr (.inr ⟨HS2.out, s, g, KG.out.1, rfl, KG.out.2⟩), HBw.out⟩
end Go.Proofs.YtkbbnflblkkepaaGreatDoor

namespace Go.Proofs.YtkbbnflblkkepaaGreatDoor
set_option linter.unusedVariables false
set_option linter.unusedSimpArgs false
open Go.RowKit

def ChQ (lo : Nat) (wr : World) (img : Value) (zs : List Int) (st : Option Nat) (cv : Value) : Prop := match st with
  | none => cv = .pointer none
  | some s => ∃ g, cv = .pointer (some ⟨g, 0, none⟩) ∧ Blk wr g (volC img (decFs (blkZ zs s)) (s : Int)) 76 ∧ lo ≤ g
theorem ChQ.below {lo : Nat} {wr w' : World} {img : Value} {zs : List Int} {st : Option Nat} {cv : Value} (h : ChQ lo wr img zs st cv) (hb : Below wr.heap.size wr w') : ChQ lo w' img zs st cv := by
  cases st with
  | none => exact h
  | some s =>
    obtain ⟨g, h1, h2, h3⟩ := h
    exact ⟨g, h1, h2.below hb h2.lt, h3⟩
/-- What openVolume tells, and that the volume is new. -/
def OpenG (w w' : World) (img : Value) (zs : List Int) (e : Ending) : Prop :=
  (szOk zs.length = false ∧ ∃ ev m, e = .returned (.tuple #[.pointer none, ev]) ∧ Flt w' w.heap.size m ev 7) ∨
  (szOk zs.length = true ∧ chz zs 2 = none ∧ ∃ ev m, e = .returned (.tuple #[.pointer none, ev]) ∧ Flt w' w.heap.size m ev 21) ∨
  (szOk zs.length = true ∧ ∃ s g, chz zs 2 = some s ∧ e = .returned (.tuple #[.pointer (some ⟨g, 0, none⟩), .nilIface]) ∧ Blk w' g (volC img (decFs (blkZ zs s)) (s : Int)) 76 ∧ w.heap.size ≤ g)

set_option maxRecDepth 100000 in
set_option maxHeartbeats 4000000 in
theorem openVolG_any (v : Value) (zs : List Int) (w : World) (h : Rd .u8 w v zs) (hbd : ∀ z ∈ zs, 0 ≤ z ∧ z < 256) (hz : zs.length ≤ 140737488355328) (hg : ErrT w) (hL : LetF w) :
    Calls Tryz.prog 14 #[v] w fun e w' => OpenG w w' v zs e ∧ Below w.heap.size w w' := by
  have HR := hide (And.intro h (And.intro hg hL))
  have HB := hide hbd
  obtain ⟨a, cap, rfl⟩ : ∃ a cap, v = .slice a zs.length cap := by obtain ⟨a, cap, h1, _⟩ := h; exact ⟨a, cap, h1⟩
  clear h hbd hg hL
  cases hs : szOk zs.length with
  | false =>
    have HS := hide hs
    clear hs
    go_enter Tryz.func14, Tryz.ntmps14
    go_wp2_with (go_at_call 24; fail)
    refine (rightInSize_any _ zs _ HR.out.1 hz).mono ?_
    rintro e w1 ⟨rfl, rfl⟩
    rw [HS.out]
    go_wp2
    go_ret2
    refine ⟨.inl ⟨HS.out, _, 0, rfl, ⟨w.heap.size, rfl, Nat.le_refl _, ?_⟩⟩, (Below.refl _ _).alloc (Nat.le_refl _) _⟩
    simp
  | true =>
    have HS := hide hs
    have hlen := szOk_len hs
    clear hs
    go_enter Tryz.func14, Tryz.ntmps14
    go_wp2_with (go_at_call 24; fail)
    refine (rightInSize_any _ zs _ HR.out.1 hz).mono ?_
    rintro e w1 ⟨rfl, rfl⟩
    rw [HS.out]
    go_wp2
    go_loopw [4, 14] (fun c i wr => ∃ k : Nat, k ≤ 2 ∧ i = .int .i64 k ∧ ChQ w.heap.size wr (.slice a zs.length cap) zs (chz zs k) c ∧ Below w.heap.size w wr) (fun _ i _ => 2 - (intOf i).toNat)
    case atStart => exact ⟨0, by omega, rfl, rfl, Below.refl _ _⟩
    case round =>
      obtain ⟨k, hk, rfl, hc, hb⟩ := hrel
      have HC := hide hc
      have HBw := hide hb
      clear hc hb
      by_cases hlt : k < 2
      · have HRk := hide (HR.out.1.below HBw.out)
        go_wp2_with (go_at_call 26; fail)
        refine (bytesAt_any _ zs k _ HRk.out (by omega) hz).mono ?_
        rintro e w2 ⟨sv, rfl, hsv, rfl⟩
        have HSv := hide hsv
        clear hsv
        go_wp2_with (go_at_call 25; fail)
        refine (implDFs_same _ (blkZ zs k) _ HSv.out (blkZ_bd HB.out k) (by rw [blkZ_len (by omega)]; omega) (HR.out.2.1.below HBw.out) (HR.out.2.2.below HBw.out)).mono ?_
        rintro e w3 ⟨rfl, b3⟩
        have HC3 := hide (HC.out.below b3)
        have B3 := hide (HBw.out.trans (b3.mono HBw.out.size))
        have HD := hide (decFs_len (blkZ zs k))
        have HTk := hide (show takeZ zs (chz zs k) k = (goodZ zs k && (match chz zs k with | none => true | some s => decide (genZ zs s < genZ zs k))) from rfl)
        have HGd := hide (show goodZ zs k = (decide (codeDF (blkZ zs k) = 0) && decide (blZ zs k = ((zs.length / 512 : Nat) : Int))) from rfl)
        have HNx := hide (show chz zs (k + 1) = if takeZ zs (chz zs k) k = true then some k else chz zs k from rfl)
        have HBl := hide (show (decFs (blkZ zs k)).getD 1 0 = blZ zs k from rfl)
        have HGn := hide (show (decFs (blkZ zs k)).getD 0 0 = genZ zs k from rfl)
        have HVl := hide (fun (wv : World) (gv : Nat) (hb : Blk wv gv (volC (.slice a zs.length cap) (decFs (blkZ zs k)) (k : Int)) 76) (hlo : w.heap.size ≤ gv) => show ChQ w.heap.size wv (.slice a zs.length cap) zs (some k) (.pointer (some ⟨gv, 0, none⟩)) from ⟨gv, rfl, hb, hlo⟩)
        have HBu := hide (built_vol a zs.length cap (decFs (blkZ zs k)) (k : Int) HD.out)
        have HVs := hide (volC_size a zs.length cap (decFs (blkZ zs k)) (k : Int) HD.out)
        clear b3 HC HSv HRk
        obtain ⟨cd, hcd⟩ : ∃ cd, cd = codeDF (blkZ zs k) := ⟨_, rfl⟩
        rw [← hcd] at HGd ⊢
        clear hcd
        obtain ⟨X, hX⟩ : ∃ X, X = decFs (blkZ zs k) := ⟨_, rfl⟩
        rw [← hX] at HD HBl HGn HVl HBu HVs ⊢
        clear hX
        obtain ⟨st, hst⟩ : ∃ st, st = chz zs k := ⟨_, rfl⟩
        rw [← hst] at HC3 HTk HNx
        clear hst
        obtain ⟨bl, hbl⟩ : ∃ bl, bl = blZ zs k := ⟨_, rfl⟩
        rw [← hbl] at HBl HGd
        obtain ⟨gn, hgn⟩ : ∃ gn, gn = genZ zs k := ⟨_, rfl⟩
        rw [← hgn] at HGn HTk
        clear hbl hgn
        have HZ := hide (show (cellsI X).size = 68 from by rw [cellsI_size]; exact HD.out)
        have K4 := hide (show Blk ((w3.alloc (.cells Tryz.zeroCells37 37)).setRow w3.heap.size (cellsI X)) w3.heap.size (cellsI X) 37 ∧ Below w3.heap.size w3 ((w3.alloc (.cells Tryz.zeroCells37 37)).setRow w3.heap.size (cellsI X)) from ⟨(Blk.new w3 Tryz.zeroCells37 37).row _, below_setRow ((Below.refl _ _).alloc (Nat.le_refl _) _) (Nat.le_refl _) _⟩)
        have c4 : ((w3.alloc (.cells Tryz.zeroCells37 37)).setRow w3.heap.size (cellsI X)).cell? ⟨w3.heap.size, 1, none⟩ = some (.int .i64 bl) := by rw [← HBl.out]; exact (K4.out.1.cell 1).trans (cellsI_get X 1 (by rw [HD.out]; omega))
        have d4 : ((w3.alloc (.cells Tryz.zeroCells37 37)).setRow w3.heap.size (cellsI X)).cell? ⟨w3.heap.size, 0, none⟩ = some (.int .i64 gn) := by rw [← HGn.out]; exact (K4.out.1.cell 0).trans (cellsI_get X 0 (by rw [HD.out]; omega))
        have HC4 := hide (HC3.out.below K4.out.2)
        have B4 := hide (B3.out.trans (K4.out.2.mono B3.out.size))
        clear HC3 B3 HBw
        by_cases hcd : cd = 0
        · have hq1 : (cd != 0) = false := by simp [hcd]
          by_cases hbl : bl = ((zs.length / 512 : Nat) : Int)
          · have hq2 : (bl != (zs.length : Int) / 512) = false := by rw [hbl]; simp
            have HG1 := hide (show goodZ zs k = true from by rw [HGd.out, decide_eq_true hcd, decide_eq_true hbl]; rfl)
            clear hcd hbl HGd
            cases st with
            | none =>
              have HN2 := hide (show chz zs (k + 1) = some k from by rw [HNx.out, HTk.out, HG1.out]; rfl)
              have hcv := HC4.out
              unfold ChQ at hcv
              subst hcv
              clear HNx HTk HC4
              go_wp2_with (refine wpList_store_row rfl 37 _ _ rfl w3.heap.size (cellsI X) rfl rfl 37 _ (Blk.new w3 Tryz.zeroCells37 37) (by rw [HZ.out]; exact info68) (by rw [HZ.out]; rfl) (cellsI_one _) ?_; generalize (w3.alloc (.cells Tryz.zeroCells37 37)).setRow w3.heap.size (cellsI X) = w4 at K4 c4 d4 B4 ⊢)
              go_quiet (fail)
              go_wp2_with (first | (refine wpList_load_row rfl 37 _ rfl w3.heap.size rfl 37 (cellsI X) (0, 0) _ K4.out.1 Tryz.underlying37 rfl (by rw [HZ.out]; exact info68) ?_) | (refine wpList_buildTo rfl 76 _ rfl (some 49) rfl (volC (.slice a zs.length cap) X (k : Int)) (by simp only [List.map_toArray, List.map_cons, List.map_nil]; exact HBu.out) ?_))
              go_roundw
              case rel => exact ⟨k + 1, by omega, by go_num, by rw [HN2.out]; exact HVl.out _ _ (Blk.new _ _ _) (by first | exact (Go.below_drewN B4.out _).size | exact B4.out.drew.size | exact B4.out.size), by first | exact (Go.below_drewN B4.out _).alloc B4.out.size _ | exact B4.out.drew.alloc B4.out.size _ | exact B4.out.alloc B4.out.size _⟩
              case measure => simp [intOf]; omega
            | some s =>
              obtain ⟨g5, hcv, k5, l5⟩ := HC4.out
              subst hcv
              have d5 := vol_at k5 0 (by rw [decFs_len]; omega)
              rw [show (decFs (blkZ zs s)).getD 0 0 = genZ zs s from rfl] at d5
              obtain ⟨gs, hgs⟩ : ∃ gs, gs = genZ zs s := ⟨_, rfl⟩
              have HTk2 := hide (show takeZ zs (some s) k = (goodZ zs k && decide (gs < gn)) from by rw [HTk.out, hgs])
              rw [← hgs] at d5
              have K5 := hide k5
              clear hgs k5 l5 HTk
              by_cases hgt : gs < gn
              · have hq3 : decide (gs < gn) = true := by simp [hgt]
                have HN2 := hide (show chz zs (k + 1) = some k from by rw [HNx.out, HTk2.out, HG1.out, hq3]; rfl)
                clear HNx HTk2 HC4 K5 hgt
                go_wp2_with (refine wpList_store_row rfl 37 _ _ rfl w3.heap.size (cellsI X) rfl rfl 37 _ (Blk.new w3 Tryz.zeroCells37 37) (by rw [HZ.out]; exact info68) (by rw [HZ.out]; rfl) (cellsI_one _) ?_; generalize (w3.alloc (.cells Tryz.zeroCells37 37)).setRow w3.heap.size (cellsI X) = w4 at K4 c4 d4 d5 B4 ⊢)
                go_quiet (fail)
                go_wp2_with (first | (refine wpList_load_row rfl 37 _ rfl w3.heap.size rfl 37 (cellsI X) (0, 0) _ K4.out.1 Tryz.underlying37 rfl (by rw [HZ.out]; exact info68) ?_) | (refine wpList_buildTo rfl 76 _ rfl (some 49) rfl (volC (.slice a zs.length cap) X (k : Int)) (by simp only [List.map_toArray, List.map_cons, List.map_nil]; exact HBu.out) ?_))
                go_roundw
                case rel => exact ⟨k + 1, by omega, by go_num, by rw [HN2.out]; exact HVl.out _ _ (Blk.new _ _ _) (by first | exact (Go.below_drewN B4.out _).size | exact B4.out.drew.size | exact B4.out.size), by first | exact (Go.below_drewN B4.out _).alloc B4.out.size _ | exact B4.out.drew.alloc B4.out.size _ | exact B4.out.alloc B4.out.size _⟩
                case measure => simp [intOf]; omega
              · have hq3 : decide (gs < gn) = false := by simp; omega
                have HN2 := hide (show chz zs (k + 1) = some s from by rw [HNx.out, HTk2.out, HG1.out, hq3]; rfl)
                clear HNx HTk2 hgt HVl HBu HVs
                have HC5 := hide (show ∀ w9, Below ((w3.alloc (.cells Tryz.zeroCells37 37)).setRow w3.heap.size (cellsI X)).heap.size ((w3.alloc (.cells Tryz.zeroCells37 37)).setRow w3.heap.size (cellsI X)) w9 → ChQ w.heap.size w9 (.slice a zs.length cap) zs (some s) (.pointer (some ⟨g5, 0, none⟩)) from fun w9 hb => HC4.out.below hb)
                clear HC4 K5
                go_wp2_with (refine wpList_store_row rfl 37 _ _ rfl w3.heap.size (cellsI X) rfl rfl 37 _ (Blk.new w3 Tryz.zeroCells37 37) (by rw [HZ.out]; exact info68) (by rw [HZ.out]; rfl) (cellsI_one _) ?_; generalize (w3.alloc (.cells Tryz.zeroCells37 37)).setRow w3.heap.size (cellsI X) = w4 at K4 c4 d4 d5 HC5 B4 ⊢)
                go_quiet (fail)
                go_wp2
                go_roundw
                case rel => exact ⟨k + 1, by omega, by go_num, by rw [HN2.out]; exact HC5.out _ (by first | exact belD (Below.refl _ _) _ | exact Go.below_drewN (Below.refl _ _) _ | exact (Below.refl _ _).drew), by first | exact Go.below_drewN B4.out _ | exact B4.out.drew | exact B4.out⟩
                case measure => simp [intOf]; omega
          · have hq2 : (bl != (zs.length : Int) / 512) = true := by simp; omega
            have HN2 := hide (show chz zs (k + 1) = st from by rw [HNx.out, HTk.out, HGd.out, decide_eq_false hbl, Bool.and_false, Bool.false_and]; rfl)
            clear HNx HTk HGd HBu HVs HVl
            go_wp2_with (refine wpList_store_row rfl 37 _ _ rfl w3.heap.size (cellsI X) rfl rfl 37 _ (Blk.new w3 Tryz.zeroCells37 37) (by rw [HZ.out]; exact info68) (by rw [HZ.out]; rfl) (cellsI_one _) ?_; generalize (w3.alloc (.cells Tryz.zeroCells37 37)).setRow w3.heap.size (cellsI X) = w4 at K4 c4 d4 HC4 B4 ⊢)
            go_roundw
            case rel => exact ⟨k + 1, by omega, by go_num, by rw [HN2.out]; exact HC4.out, B4.out⟩
            case measure => simp [intOf]; omega
        · have hq1 : (cd != 0) = true := by simp [hcd]
          have HN2 := hide (show chz zs (k + 1) = st from by rw [HNx.out, HTk.out, HGd.out, decide_eq_false hcd, Bool.false_and, Bool.false_and]; rfl)
          clear HNx HTk HGd HBu HVs HVl
          go_wp2_with (refine wpList_store_row rfl 37 _ _ rfl w3.heap.size (cellsI X) rfl rfl 37 _ (Blk.new w3 Tryz.zeroCells37 37) (by rw [HZ.out]; exact info68) (by rw [HZ.out]; rfl) (cellsI_one _) ?_; generalize (w3.alloc (.cells Tryz.zeroCells37 37)).setRow w3.heap.size (cellsI X) = w4 at K4 c4 d4 HC4 B4 ⊢)
          go_roundw
          case rel => exact ⟨k + 1, by omega, by go_num, by rw [HN2.out]; exact HC4.out, B4.out⟩
          case measure => simp [intOf]; omega
      · have hk2 : k = 2 := by omega
        subst hk2
        have HS2 := hide (show szOk zs.length = true from HS.out)
        cases hst : chz zs 2 with
        | none =>
          have hcv := HC.out
          rw [hst] at hcv
          unfold ChQ at hcv
          subst hcv
          have HST := hide hst
          clear hst HC
          go_wp2
          go_ret2
          refine ⟨.inr (.inl ⟨HS2.out, HST.out, _, 1, rfl, ⟨wr.heap.size + 1, _, rfl, ?_, ?_, ⟨wr.heap.size, rfl, HBw.out.size, ?_⟩⟩⟩), (HBw.out.alloc HBw.out.size _).alloc ?_ _⟩
          · have := HBw.out.size; omega
          · simp
          · simp
          · have := HBw.out.size; simp; omega
        | some s =>
          have hcv := HC.out
          rw [hst] at hcv
          obtain ⟨g, hcv, kg, lg⟩ := hcv
          subst hcv
          have KG := hide (And.intro hst (And.intro kg lg))
          clear hst kg lg HC
          go_wp2
          go_ret2
          exact ⟨.inr (.inr ⟨HS2.out, s, g, KG.out.1, rfl, KG.out.2.1, KG.out.2.2⟩), HBw.out⟩
end Go.Proofs.YtkbbnflblkkepaaGreatDoor
