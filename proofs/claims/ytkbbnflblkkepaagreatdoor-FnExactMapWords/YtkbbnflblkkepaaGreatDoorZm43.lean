/- The model's DecodeFsinfo. -/
import Derived.Test.YtkbbnflblkkepaaGreatDoorZm37
import Derived.Test.YtkbbnflblkkepaaGreatDoorZm41
import Derived.Test.YtkbbnflblkkepaaGreatDoorZm42
import Derived.Test.YtkbbnflblkkepaaGreatDoorZm30
import Derived.Laws.BytesArg
namespace Go.Proofs.YtkbbnflblkkepaaGreatDoor
set_option linter.unusedVariables false
set_option linter.unusedSimpArgs false
open Go.RowKit

theorem wp_buildV {P : Program} {o : Oper} {a : Act} {w : World} {K : Act → World → Prop} {Q : Exit → Act → World → Prop} (t : TypeId) (parts : Array (Nat × Operand)) (ho : o.op = .build t parts) (cells : Array Value)
    (hf : P.built t (parts.map fun (i, x) => (i, a.eval x)).toList = some cells) (h : K (a.put o.dst (.agg cells)) w) : o.wp P a w K Q := by
  unfold Oper.wp execOp
  simp only [ho, Sem.run_bind, run_build w t _ _ hf, Result.andThen_ok, Sem.run_pure]
  exact h
theorem build_fs12 (x0 x1 x2 x3 x4 x5 x6 s1 a0 a1 a2 a3 a4 a5 a6 a7 a8 a9 a10 a11 p1 q1 s2 b0 b1 b2 b3 b4 b5 b6 b7 b8 b9 b10 b11 p2 q2 : Int) :
    Tryz.prog.built 37 [(0, .int .i64 x0), (1, .int .i64 x1), (2, .int .i64 x2), (3, .int .i64 x3), (4, .int .i64 x4), (5, .int .i64 x5), (6, .int .i64 x6), (7, .agg (cellsI (rootI s1 [a0, a1, a2, a3, a4, a5, a6, a7, a8, a9, a10, a11] p1 q1))), (8, .agg (cellsI (rootI s2 [b0, b1, b2, b3, b4, b5, b6, b7, b8, b9, b10, b11] p2 q2)))] = some (cellsI (fsI x0 x1 x2 x3 x4 x5 x6 s1 [a0, a1, a2, a3, a4, a5, a6, a7, a8, a9, a10, a11] p1 q1 s2 [b0, b1, b2, b3, b4, b5, b6, b7, b8, b9, b10, b11] p2 q2 (List.replicate 31 0))) := by kernel_rfl
theorem build_fs (x0 x1 x2 x3 x4 x5 x6 s1 : Int) (ds1 : List Int) (p1 q1 s2 : Int) (ds2 : List Int) (p2 q2 : Int) (h1 : ds1.length = 12) (h2 : ds2.length = 12) :
    Tryz.prog.built 37 [(0, .int .i64 x0), (1, .int .i64 x1), (2, .int .i64 x2), (3, .int .i64 x3), (4, .int .i64 x4), (5, .int .i64 x5), (6, .int .i64 x6), (7, .agg (cellsI (rootI s1 ds1 p1 q1))), (8, .agg (cellsI (rootI s2 ds2 p2 q2)))] = some (cellsI (fsI x0 x1 x2 x3 x4 x5 x6 s1 ds1 p1 q1 s2 ds2 p2 q2 (List.replicate 31 0))) := by
  match ds1, h1, ds2, h2 with
  | [a0, a1, a2, a3, a4, a5, a6, a7, a8, a9, a10, a11], _, [b0, b1, b2, b3, b4, b5, b6, b7, b8, b9, b10, b11], _ => exact build_fs12 _ _ _ _ _ _ _ _ _ _ _ _ _ _ _ _ _ _ _ _ _ _ _ _ _ _ _ _ _ _ _ _ _ _ _ _ _
/-- What the region of the model's DecodeFsinfo holds: the record's cell, once it is made and once it is filled. -/
def SF (W : World) (XF : List Int) (listed : Array Bool) (a : Act) (w : World) : Prop :=
  Below W.heap.size W w ∧ listed.size = 30 ∧ a.tmps.size = 72 ∧ (listed.getD 29 false = true → listed.getD 28 false = true) ∧ (listed.getD 28 false = true → ∃ g, a.tmps.getD 4 undef = .pointer (some ⟨g, 0, none⟩) ∧ W.heap.size ≤ g ∧ Blk w g (if listed.getD 29 false = true then cellsI XF else cellsI noFs) 37)
theorem SF.keep {W : World} {XF : List Int} {listed : Array Bool} {a : Act} {w w' : World} (h : SF W XF listed a w) (hb : Below w.heap.size w w') (i d : Nat) (v : Value) (hi : i < 28) (hd : d ≠ 4) (hd2 : d < 72) : SF W XF (listed.setIfInBounds i true) (a.put (some d) v) w' := by
  obtain ⟨h1, h2, h3, h4, h5⟩ := h
  have e28 : (listed.setIfInBounds i true).getD 28 false = listed.getD 28 false := by rw [listed_set (by omega), if_neg (by omega)]
  have e29 : (listed.setIfInBounds i true).getD 29 false = listed.getD 29 false := by rw [listed_set (by omega), if_neg (by omega)]
  refine ⟨h1.trans (hb.mono h1.size), by simpa using h2, by simpa [Act.put] using h3, by rw [e28, e29]; exact h4, fun h => ?_⟩
  rw [e28] at h
  obtain ⟨g, k1, k2, k3⟩ := h5 h
  refine ⟨g, ?_, k2, ?_⟩
  · rw [getD_put (by omega), if_neg (by omega)]
    exact k1
  · rw [e29]
    exact k3.below hb k3.lt
theorem SF.made {W : World} {XF : List Int} {listed : Array Bool} {a : Act} {w : World} (h : SF W XF listed a w) (hn : listed.getD 28 true = false) : SF W XF (listed.setIfInBounds 28 true) (a.put (some 4) (.pointer (some ⟨w.heap.size, 0, none⟩))) (w.alloc (.cells (cellsI noFs) 37)) := by
  obtain ⟨h1, h2, h3, h4, h5⟩ := h
  have h28 : listed.getD 28 false = false := by
    rw [Array.getD_eq_getD_getElem?, Array.getElem?_eq_getElem (by omega)] at hn ⊢
    exact hn
  have h29 : listed.getD 29 false = false := by
    cases e : listed.getD 29 false with
    | false => rfl
    | true => have := h4 e; rw [h28] at this; cases this
  have e29 : (listed.setIfInBounds 28 true).getD 29 false = false := by rw [listed_set (by omega), if_neg (by omega)]; exact h29
  refine ⟨h1.alloc h1.size _, by simpa using h2, by simpa [Act.put] using h3, by rw [e29]; exact (fun h => by cases h), fun _ => ⟨w.heap.size, ?_, h1.size, ?_⟩⟩
  · rw [getD_put (by omega), if_pos rfl]
  · rw [e29]
    exact Blk.new w (cellsI noFs) 37
theorem SF.put {W : World} {XF : List Int} {listed : Array Bool} {a : Act} {w : World} (h : SF W XF listed a w) (g : Nat) (hg : a.tmps.getD 4 undef = .pointer (some ⟨g, 0, none⟩)) (hW : W.heap.size ≤ g) (C : Array Value) (hB : Blk w g C 37) (v : Value) (h28 : listed.getD 28 false = true) : SF W XF (listed.setIfInBounds 29 true) (a.put none v) (w.setRow g (cellsI XF)) := by
  obtain ⟨h1, h2, h3, h4, h5⟩ := h
  have e28 : (listed.setIfInBounds 29 true).getD 28 false = listed.getD 28 false := by rw [listed_set (by omega), if_neg (by omega)]
  have e29 : (listed.setIfInBounds 29 true).getD 29 false = true := by rw [listed_set (by omega), if_pos rfl]
  refine ⟨below_setRow h1 hW _, by simpa using h2, h3, by rw [e28]; exact fun _ => h28, fun _ => ⟨g, hg, hW, ?_⟩⟩
  rw [e29]
  exact hB.row _
theorem tmps72 (a : Array Value) (h : a.size = 72) : a = #[a.getD 0 undef, a.getD 1 undef, a.getD 2 undef, a.getD 3 undef, a.getD 4 undef, a.getD 5 undef, a.getD 6 undef, a.getD 7 undef, a.getD 8 undef, a.getD 9 undef, a.getD 10 undef, a.getD 11 undef, a.getD 12 undef, a.getD 13 undef, a.getD 14 undef, a.getD 15 undef, a.getD 16 undef, a.getD 17 undef, a.getD 18 undef, a.getD 19 undef, a.getD 20 undef, a.getD 21 undef, a.getD 22 undef, a.getD 23 undef, a.getD 24 undef, a.getD 25 undef, a.getD 26 undef, a.getD 27 undef, a.getD 28 undef, a.getD 29 undef, a.getD 30 undef, a.getD 31 undef, a.getD 32 undef, a.getD 33 undef, a.getD 34 undef, a.getD 35 undef, a.getD 36 undef, a.getD 37 undef, a.getD 38 undef, a.getD 39 undef, a.getD 40 undef, a.getD 41 undef, a.getD 42 undef, a.getD 43 undef, a.getD 44 undef, a.getD 45 undef, a.getD 46 undef, a.getD 47 undef, a.getD 48 undef, a.getD 49 undef, a.getD 50 undef, a.getD 51 undef, a.getD 52 undef, a.getD 53 undef, a.getD 54 undef, a.getD 55 undef, a.getD 56 undef, a.getD 57 undef, a.getD 58 undef, a.getD 59 undef, a.getD 60 undef, a.getD 61 undef, a.getD 62 undef, a.getD 63 undef, a.getD 64 undef, a.getD 65 undef, a.getD 66 undef, a.getD 67 undef, a.getD 68 undef, a.getD 69 undef, a.getD 70 undef, a.getD 71 undef] := by
  have e : a = ((List.range 72).map fun i => a.getD i undef).toArray := Array.ext (by simp [h]) (fun i h1 h2 => by simp [Array.getD, h1])
  exact e
def VD (bd off cap : Nat) (zs XF : List Int) (i : Nat) (v : Value) (w : World) : Prop := match i with
  | 0 => v = .slice (some ⟨bd, off, none⟩) 512 cap
  | 1 => v = .slice (some ⟨bd, off + 8, none⟩) 8 (cap - 8)
  | 2 => v = .int .i64 (mg zs 8 8)
  | 3 => v = .slice (some ⟨bd, off, none⟩) 512 cap
  | 4 => v = .slice (some ⟨bd, off + 16, none⟩) 4 (cap - 16)
  | 5 => v = .int .i64 (mg zs 16 4)
  | 6 => v = .slice (some ⟨bd, off, none⟩) 512 cap
  | 7 => v = .slice (some ⟨bd, off + 20, none⟩) 4 (cap - 20)
  | 8 => v = .int .i64 (mg zs 20 4)
  | 9 => v = .slice (some ⟨bd, off, none⟩) 512 cap
  | 10 => v = .slice (some ⟨bd, off + 24, none⟩) 8 (cap - 24)
  | 11 => v = .int .i64 (mg zs 24 8)
  | 12 => v = .slice (some ⟨bd, off, none⟩) 512 cap
  | 13 => v = .slice (some ⟨bd, off + 32, none⟩) 8 (cap - 32)
  | 14 => v = .int .i64 (mg zs 32 8)
  | 15 => v = .slice (some ⟨bd, off, none⟩) 512 cap
  | 16 => v = .slice (some ⟨bd, off + 40, none⟩) 4 (cap - 40)
  | 17 => v = .int .i64 (mg zs 40 4)
  | 18 => v = .slice (some ⟨bd, off, none⟩) 512 cap
  | 19 => v = .slice (some ⟨bd, off + 44, none⟩) 4 (cap - 44)
  | 20 => v = .int .i64 (mg zs 44 4)
  | 21 => v = .slice (some ⟨bd, off, none⟩) 512 cap
  | 22 => v = .slice (some ⟨bd, off + 48, none⟩) 64 (cap - 48)
  | 23 => v = .agg (cellsI (rootI (mS (mR zs 48)) (gwords (mR zs 48) 12) (mP (mR zs 48)) (mQ (mR zs 48))))
  | 24 => v = .slice (some ⟨bd, off, none⟩) 512 cap
  | 25 => v = .slice (some ⟨bd, off + 112, none⟩) 64 (cap - 112)
  | 26 => v = .agg (cellsI (rootI (mS (mR zs 112)) (gwords (mR zs 112) 12) (mP (mR zs 112)) (mQ (mR zs 112))))
  | 27 => v = .agg (cellsI XF)
  | _ => True
theorem strOf_injF {xs ys : List Int} (hx : ∀ z ∈ xs, 0 ≤ z ∧ z < 256) (hy : ∀ z ∈ ys, 0 ≤ z ∧ z < 256) (h : (strOfNums xs).toList = (strOfNums ys).toList) : xs = ys := by
  have h1 : (strOfNums xs).data.toList = (strOfNums ys).data.toList := by rw [ByteArray.toList_eq, ByteArray.toList_eq] at h; exact h
  rw [strOfNums_data, strOfNums_data] at h1
  clear h
  induction xs generalizing ys with
  | nil =>
    cases ys with
    | nil => rfl
    | cons y ys => simp at h1
  | cons x xs ih =>
    cases ys with
    | nil => simp at h1
    | cons y ys =>
      simp only [List.map_cons, List.cons.injEq] at h1
      have hxb := hx x (by simp)
      have hyb := hy y (by simp)
      have e : x = y := by
        have h2 := congrArg UInt8.toNat h1.1
        simp only [UInt8.toNat_ofNat'] at h2
        omega
      rw [e, ih (fun z hz => hx z (by simp [hz])) (fun z hz => hy z (by simp [hz])) h1.2]
/-- What the model's DecodeFsinfo tells of bytes. -/
def okFs (zs : List Int) : Bool := decide (zs.length = 512) && (rightF (mg zs 8 8) (mg zs 16 4) (mg zs 20 4) (mg zs 24 8) (mg zs 32 8) (mg zs 40 4) (mg zs 44 4) (mS (mR zs 48)) (gwords (mR zs 48) 12) (mP (mR zs 48)) (mQ (mR zs 48)) (mS (mR zs 112)) (gwords (mR zs 112) 12) (mP (mR zs 112)) (mQ (mR zs 112)) (mSn zs 31) && decide (encFs (mg zs 8 8) (mg zs 16 4) (mg zs 20 4) (mg zs 24 8) (mg zs 32 8) (mg zs 40 4) (mg zs 44 4) (mS (mR zs 48)) (gwords (mR zs 48) 12) (mP (mR zs 48)) (mQ (mR zs 48)) (mS (mR zs 112)) (gwords (mR zs 112) 12) (mP (mR zs 112)) (mQ (mR zs 112)) (mSn zs 31) = zs))
def decFs (zs : List Int) : List Int := if okFs zs = true then fsI (mg zs 8 8) (mg zs 16 4) (mg zs 20 4) (mg zs 24 8) (mg zs 32 8) (mg zs 40 4) (mg zs 44 4) (mS (mR zs 48)) (gwords (mR zs 48) 12) (mP (mR zs 48)) (mQ (mR zs 48)) (mS (mR zs 112)) (gwords (mR zs 112) 12) (mP (mR zs 112)) (mQ (mR zs 112)) (mSn zs 31) else noFs
def codeDF (zs : List Int) : Int := if okFs zs = true then 0 else 21
theorem decFs_len (zs : List Int) : (decFs zs).length = 68 := by
  unfold decFs
  split
  · exact fsI_len _ _ _ _ _ _ _ _ _ _ _ _ _ _ _ _ (gwords_len _ _) (gwords_len _ _) (mSn_len _ _)
  · rfl
theorem encFs_bd (gen bl cu ck op ev lg s1 : Int) (ds1 : List Int) (p1 q1 s2 : Int) (ds2 : List Int) (p2 q2 : Int) (sn : List Int) : ∀ z ∈ encFs gen bl cu ck op ev lg s1 ds1 p1 q1 s2 ds2 p2 q2 sn, 0 ≤ z ∧ z < 256 := by
  intro z hz
  unfold encFs at hz
  split at hz
  · unfold sealed at hz
    rw [List.mem_append] at hz
    rcases hz with hz | hz
    · exact pad_bd _ (bytesF_bd _ _ _ _ _ _ _ _ _ _ _ _ _ _ _ _) z hz
    · exact le_few _ _ z hz
  · cases hz
theorem conv_rdF {w : World} {v : Value} {xs : List Int} (h : Rd .u8 w v xs) : (convert 22 9 v).run Tryz.prog w = .ok (.string (strOfNums xs)) w := by
  obtain ⟨a, cap, rfl, hm, hc, h1, h2⟩ := h
  by_cases hne : xs = []
  · subst hne
    rw [run_convert_bytes_string w 22 9 5 _ _ cap Tryz.underlying22 Tryz.underlying5 Tryz.underlying9]
    cases a with
    | none => simp [Conv.bytesToString]; rfl
    | some ad =>
      exact run_bytesToString w ad 0 cap [] (by simpa using run_loadCells_list (P := Tryz.prog) w ad [] (by simp))
  · obtain ⟨b, off, rfl, _, hcell⟩ := hc hne
    exact run_convert_bytes_arg w 22 5 Tryz.underlying22 Tryz.underlying5 b off xs.length cap xs rfl hcell 9 Tryz.underlying9
theorem listed_of {o : Oper} {listed : Array Bool} (hall : ∀ e ∈ o.after, Region.binds .any e = true → listed.getD e.on false = true) (j : Nat) (ha : (o.after.toList.any fun e => e.on == j && Region.binds .any e) = true) : listed.getD j false = true := by
  rw [List.any_eq_true] at ha
  obtain ⟨e, he, h2⟩ := ha
  rw [Bool.and_eq_true] at h2
  have h3 : e.on = j := by simpa using h2.1
  rw [← h3]
  exact hall e (Array.mem_toList_iff.1 he) h2.2
set_option maxRecDepth 100000 in
set_option maxHeartbeats 4000000 in
theorem specDFs_any (v : Value) (zs : List Int) (w : World) (h : Rd .u8 w v zs) (hbd : ∀ z ∈ zs, 0 ≤ z ∧ z < 256) :
    Calls Tryz.prog 19 #[v] w fun e w' => e = .returned (.tuple #[.agg (cellsI (decFs zs)), .int .i64 (codeDF zs)]) ∧ Below w.heap.size w w' := by
  by_cases hz : zs.length = 512
  · have HB := hide hbd
    have HZ0 := hide hz
    obtain ⟨bd, off, cap, rfl, hbw, hcl, hcm, hcell⟩ := h.partsC (by omega)
    unfold maxLen at hcm
    have HN := hide (And.intro h hbw)
    have hq : ((zs.length : Int) != 512) = false := by simp [hz]
    obtain ⟨W, hW⟩ : ∃ W, W = w.alloc (.cells Tryz.zeroCells37 37) := ⟨_, rfl⟩
    have hWs : w.heap.size < W.heap.size := by rw [hW]; simp
    have KW := hide (show Blk W w.heap.size (cellsI noFs) 37 ∧ Below w.heap.size w W from by rw [hW]; exact ⟨Blk.new _ _ _, (Below.refl _ _).alloc (Nat.le_refl _) _⟩)
    have HRW := hide (fun (w' : World) (hb : Below W.heap.size W w') => (h.below KW.out.2).below hb)
    obtain ⟨XF, hXF⟩ : ∃ XF, XF = fsI (mg zs 8 8) (mg zs 16 4) (mg zs 20 4) (mg zs 24 8) (mg zs 32 8) (mg zs 40 4) (mg zs 44 4) (mS (mR zs 48)) (gwords (mR zs 48) 12) (mP (mR zs 48)) (mQ (mR zs 48)) (mS (mR zs 112)) (gwords (mR zs 112) 12) (mP (mR zs 112)) (mQ (mR zs 112)) (List.replicate 31 0) := ⟨_, rfl⟩
    have HXF := hide hXF
    have HXL := hide (show XF.length = 68 from by rw [hXF]; exact fsI_len _ _ _ _ _ _ _ _ _ _ _ _ _ _ _ _ (gwords_len _ _) (gwords_len _ _) rfl)
    have HXZ := hide (show (cellsI XF).size = 68 from by rw [cellsI_size]; exact HXL.out)
    rw [hz] at hq hcl
    have hRd := h
    rw [hz]
    have HW9 := hide hW
    clear h hbd hXF hcell hRd hW hz
    go_enter Tryz.func19, Tryz.ntmps19
    go_wp2
    rw [← HW9.out]
    refine wp_region_noPanic ?_
    refine wp_region_any (by kernel_rfl) ?_
    refine wpAny_invSB [(0, .slice (some ⟨bd, off, none⟩) 512 cap), (2, .pointer (some ⟨w.heap.size, 0, none⟩)), (3, .int .i64 0)] (SF W XF) (VD bd off cap zs XF) 72 [] (by kernel_rfl) ?hstep ?hfin _ _ (by rfl) (by rfl) ⟨(Below.refl _ _).drew, by rfl, by rfl, (fun h => by cases h), (fun h => by cases h)⟩ (by intro t v h; simp at h; rcases h with ⟨rfl, rfl⟩ | ⟨rfl, rfl⟩ | ⟨rfl, rfl⟩ <;> rfl)
    case hstep =>
      intro i o listed ac wz hi h0 hall hI
      have f0 : ac.tmps.getD 0 undef = .slice (some ⟨bd, off, none⟩) 512 cap := hI.fix 0 _ (by simp)
      have hS := hI.held
      match i, hi with
      | 0, hi =>
        obtain rfl := Option.some.inj hi
        refine ⟨by rfl, ?_⟩
        clear hall h0
        go_simp
        exact ⟨_, rfl, rfl, hS.keep (Below.refl _ _) 0 12 _ (by omega) (by omega) (by omega)⟩
      | 1, hi =>
        obtain rfl := Option.some.inj hi
        have va : ac.tmps.getD 12 undef = .slice (some ⟨bd, off, none⟩) 512 cap := hI.at hall 0 12 rfl rfl (by rfl)
        refine ⟨by rfl, ?_⟩
        have hq1 : (16 : Int) ≤ (cap : Int) := by omega
        have hq2 : ¬ cap = 8 := by omega
        clear hall h0
        go_simp
        exact ⟨_, rfl, rfl, hS.keep (Below.refl _ _) 1 13 _ (by omega) (by omega) (by omega)⟩
      | 2, hi =>
        obtain rfl := Option.some.inj hi
        have va : ac.tmps.getD 13 undef = .slice (some ⟨bd, off + 8, none⟩) 8 (cap - 8) := hI.at hall 1 13 rfl rfl (by rfl)
        refine ⟨by rfl, ?_⟩
        clear hall h0
        go_simp
        have hr := Rd.cut2 8 8 (HRW.out wz hS.1) (by omega) (by rw [HZ0.out]; omega)
        refine (get_any _ ((zs.drop 8).take 8) _ hr (by rw [List.length_take]; omega) (bytes_cut HB.out 8 8)).mono ?_
        rintro e w' ⟨rfl, rfl⟩
        exact ⟨_, rfl, rfl, hS.keep (Below.refl _ _) 2 14 _ (by omega) (by omega) (by omega), fun _ _ h => h⟩
      | 3, hi =>
        obtain rfl := Option.some.inj hi
        refine ⟨by rfl, ?_⟩
        clear hall h0
        go_simp
        exact ⟨_, rfl, rfl, hS.keep (Below.refl _ _) 3 15 _ (by omega) (by omega) (by omega)⟩
      | 4, hi =>
        obtain rfl := Option.some.inj hi
        have va : ac.tmps.getD 15 undef = .slice (some ⟨bd, off, none⟩) 512 cap := hI.at hall 3 15 rfl rfl (by rfl)
        refine ⟨by rfl, ?_⟩
        have hq1 : (20 : Int) ≤ (cap : Int) := by omega
        have hq2 : ¬ cap = 16 := by omega
        clear hall h0
        go_simp
        exact ⟨_, rfl, rfl, hS.keep (Below.refl _ _) 4 16 _ (by omega) (by omega) (by omega)⟩
      | 5, hi =>
        obtain rfl := Option.some.inj hi
        have va : ac.tmps.getD 16 undef = .slice (some ⟨bd, off + 16, none⟩) 4 (cap - 16) := hI.at hall 4 16 rfl rfl (by rfl)
        refine ⟨by rfl, ?_⟩
        clear hall h0
        go_simp
        have hr := Rd.cut2 16 4 (HRW.out wz hS.1) (by omega) (by rw [HZ0.out]; omega)
        refine (get_any _ ((zs.drop 16).take 4) _ hr (by rw [List.length_take]; omega) (bytes_cut HB.out 16 4)).mono ?_
        rintro e w' ⟨rfl, rfl⟩
        exact ⟨_, rfl, rfl, hS.keep (Below.refl _ _) 5 17 _ (by omega) (by omega) (by omega), fun _ _ h => h⟩
      | 6, hi =>
        obtain rfl := Option.some.inj hi
        refine ⟨by rfl, ?_⟩
        clear hall h0
        go_simp
        exact ⟨_, rfl, rfl, hS.keep (Below.refl _ _) 6 18 _ (by omega) (by omega) (by omega)⟩
      | 7, hi =>
        obtain rfl := Option.some.inj hi
        have va : ac.tmps.getD 18 undef = .slice (some ⟨bd, off, none⟩) 512 cap := hI.at hall 6 18 rfl rfl (by rfl)
        refine ⟨by rfl, ?_⟩
        have hq1 : (24 : Int) ≤ (cap : Int) := by omega
        have hq2 : ¬ cap = 20 := by omega
        clear hall h0
        go_simp
        exact ⟨_, rfl, rfl, hS.keep (Below.refl _ _) 7 19 _ (by omega) (by omega) (by omega)⟩
      | 8, hi =>
        obtain rfl := Option.some.inj hi
        have va : ac.tmps.getD 19 undef = .slice (some ⟨bd, off + 20, none⟩) 4 (cap - 20) := hI.at hall 7 19 rfl rfl (by rfl)
        refine ⟨by rfl, ?_⟩
        clear hall h0
        go_simp
        have hr := Rd.cut2 20 4 (HRW.out wz hS.1) (by omega) (by rw [HZ0.out]; omega)
        refine (get_any _ ((zs.drop 20).take 4) _ hr (by rw [List.length_take]; omega) (bytes_cut HB.out 20 4)).mono ?_
        rintro e w' ⟨rfl, rfl⟩
        exact ⟨_, rfl, rfl, hS.keep (Below.refl _ _) 8 20 _ (by omega) (by omega) (by omega), fun _ _ h => h⟩
      | 9, hi =>
        obtain rfl := Option.some.inj hi
        refine ⟨by rfl, ?_⟩
        clear hall h0
        go_simp
        exact ⟨_, rfl, rfl, hS.keep (Below.refl _ _) 9 21 _ (by omega) (by omega) (by omega)⟩
      | 10, hi =>
        obtain rfl := Option.some.inj hi
        have va : ac.tmps.getD 21 undef = .slice (some ⟨bd, off, none⟩) 512 cap := hI.at hall 9 21 rfl rfl (by rfl)
        refine ⟨by rfl, ?_⟩
        have hq1 : (32 : Int) ≤ (cap : Int) := by omega
        have hq2 : ¬ cap = 24 := by omega
        clear hall h0
        go_simp
        exact ⟨_, rfl, rfl, hS.keep (Below.refl _ _) 10 22 _ (by omega) (by omega) (by omega)⟩
      | 11, hi =>
        obtain rfl := Option.some.inj hi
        have va : ac.tmps.getD 22 undef = .slice (some ⟨bd, off + 24, none⟩) 8 (cap - 24) := hI.at hall 10 22 rfl rfl (by rfl)
        refine ⟨by rfl, ?_⟩
        clear hall h0
        go_simp
        have hr := Rd.cut2 24 8 (HRW.out wz hS.1) (by omega) (by rw [HZ0.out]; omega)
        refine (get_any _ ((zs.drop 24).take 8) _ hr (by rw [List.length_take]; omega) (bytes_cut HB.out 24 8)).mono ?_
        rintro e w' ⟨rfl, rfl⟩
        exact ⟨_, rfl, rfl, hS.keep (Below.refl _ _) 11 23 _ (by omega) (by omega) (by omega), fun _ _ h => h⟩
      | 12, hi =>
        obtain rfl := Option.some.inj hi
        refine ⟨by rfl, ?_⟩
        clear hall h0
        go_simp
        exact ⟨_, rfl, rfl, hS.keep (Below.refl _ _) 12 24 _ (by omega) (by omega) (by omega)⟩
      | 13, hi =>
        obtain rfl := Option.some.inj hi
        have va : ac.tmps.getD 24 undef = .slice (some ⟨bd, off, none⟩) 512 cap := hI.at hall 12 24 rfl rfl (by rfl)
        refine ⟨by rfl, ?_⟩
        have hq1 : (40 : Int) ≤ (cap : Int) := by omega
        have hq2 : ¬ cap = 32 := by omega
        clear hall h0
        go_simp
        exact ⟨_, rfl, rfl, hS.keep (Below.refl _ _) 13 25 _ (by omega) (by omega) (by omega)⟩
      | 14, hi =>
        obtain rfl := Option.some.inj hi
        have va : ac.tmps.getD 25 undef = .slice (some ⟨bd, off + 32, none⟩) 8 (cap - 32) := hI.at hall 13 25 rfl rfl (by rfl)
        refine ⟨by rfl, ?_⟩
        clear hall h0
        go_simp
        have hr := Rd.cut2 32 8 (HRW.out wz hS.1) (by omega) (by rw [HZ0.out]; omega)
        refine (get_any _ ((zs.drop 32).take 8) _ hr (by rw [List.length_take]; omega) (bytes_cut HB.out 32 8)).mono ?_
        rintro e w' ⟨rfl, rfl⟩
        exact ⟨_, rfl, rfl, hS.keep (Below.refl _ _) 14 26 _ (by omega) (by omega) (by omega), fun _ _ h => h⟩
      | 15, hi =>
        obtain rfl := Option.some.inj hi
        refine ⟨by rfl, ?_⟩
        clear hall h0
        go_simp
        exact ⟨_, rfl, rfl, hS.keep (Below.refl _ _) 15 27 _ (by omega) (by omega) (by omega)⟩
      | 16, hi =>
        obtain rfl := Option.some.inj hi
        have va : ac.tmps.getD 27 undef = .slice (some ⟨bd, off, none⟩) 512 cap := hI.at hall 15 27 rfl rfl (by rfl)
        refine ⟨by rfl, ?_⟩
        have hq1 : (44 : Int) ≤ (cap : Int) := by omega
        have hq2 : ¬ cap = 40 := by omega
        clear hall h0
        go_simp
        exact ⟨_, rfl, rfl, hS.keep (Below.refl _ _) 16 28 _ (by omega) (by omega) (by omega)⟩
      | 17, hi =>
        obtain rfl := Option.some.inj hi
        have va : ac.tmps.getD 28 undef = .slice (some ⟨bd, off + 40, none⟩) 4 (cap - 40) := hI.at hall 16 28 rfl rfl (by rfl)
        refine ⟨by rfl, ?_⟩
        clear hall h0
        go_simp
        have hr := Rd.cut2 40 4 (HRW.out wz hS.1) (by omega) (by rw [HZ0.out]; omega)
        refine (get_any _ ((zs.drop 40).take 4) _ hr (by rw [List.length_take]; omega) (bytes_cut HB.out 40 4)).mono ?_
        rintro e w' ⟨rfl, rfl⟩
        exact ⟨_, rfl, rfl, hS.keep (Below.refl _ _) 17 29 _ (by omega) (by omega) (by omega), fun _ _ h => h⟩
      | 18, hi =>
        obtain rfl := Option.some.inj hi
        refine ⟨by rfl, ?_⟩
        clear hall h0
        go_simp
        exact ⟨_, rfl, rfl, hS.keep (Below.refl _ _) 18 30 _ (by omega) (by omega) (by omega)⟩
      | 19, hi =>
        obtain rfl := Option.some.inj hi
        have va : ac.tmps.getD 30 undef = .slice (some ⟨bd, off, none⟩) 512 cap := hI.at hall 18 30 rfl rfl (by rfl)
        refine ⟨by rfl, ?_⟩
        have hq1 : (48 : Int) ≤ (cap : Int) := by omega
        have hq2 : ¬ cap = 44 := by omega
        clear hall h0
        go_simp
        exact ⟨_, rfl, rfl, hS.keep (Below.refl _ _) 19 31 _ (by omega) (by omega) (by omega)⟩
      | 20, hi =>
        obtain rfl := Option.some.inj hi
        have va : ac.tmps.getD 31 undef = .slice (some ⟨bd, off + 44, none⟩) 4 (cap - 44) := hI.at hall 19 31 rfl rfl (by rfl)
        refine ⟨by rfl, ?_⟩
        clear hall h0
        go_simp
        have hr := Rd.cut2 44 4 (HRW.out wz hS.1) (by omega) (by rw [HZ0.out]; omega)
        refine (get_any _ ((zs.drop 44).take 4) _ hr (by rw [List.length_take]; omega) (bytes_cut HB.out 44 4)).mono ?_
        rintro e w' ⟨rfl, rfl⟩
        exact ⟨_, rfl, rfl, hS.keep (Below.refl _ _) 20 32 _ (by omega) (by omega) (by omega), fun _ _ h => h⟩
      | 21, hi =>
        obtain rfl := Option.some.inj hi
        refine ⟨by rfl, ?_⟩
        clear hall h0
        go_simp
        exact ⟨_, rfl, rfl, hS.keep (Below.refl _ _) 21 33 _ (by omega) (by omega) (by omega)⟩
      | 22, hi =>
        obtain rfl := Option.some.inj hi
        have va : ac.tmps.getD 33 undef = .slice (some ⟨bd, off, none⟩) 512 cap := hI.at hall 21 33 rfl rfl (by rfl)
        refine ⟨by rfl, ?_⟩
        have hq1 : (112 : Int) ≤ (cap : Int) := by omega
        have hq2 : ¬ cap = 48 := by omega
        clear hall h0
        go_simp
        exact ⟨_, rfl, rfl, hS.keep (Below.refl _ _) 22 34 _ (by omega) (by omega) (by omega)⟩
      | 23, hi =>
        obtain rfl := Option.some.inj hi
        have va : ac.tmps.getD 34 undef = .slice (some ⟨bd, off + 48, none⟩) 64 (cap - 48) := hI.at hall 22 34 rfl rfl (by rfl)
        refine ⟨by rfl, ?_⟩
        clear hall h0
        go_simp
        have hr := Rd.cut2 48 64 (HRW.out wz hS.1) (by omega) (by rw [HZ0.out]; omega)
        refine (rootOf_any _ (mR zs 48) _ hr (bytes_cut HB.out 48 64) (by unfold mR; rw [List.length_take, List.length_drop, HZ0.out]; rfl)).mono ?_
        rintro e w' ⟨rfl, hb⟩
        exact ⟨_, rfl, rfl, hS.keep hb 23 35 _ (by omega) (by omega) (by omega), fun _ _ h => h⟩
      | 24, hi =>
        obtain rfl := Option.some.inj hi
        refine ⟨by rfl, ?_⟩
        clear hall h0
        go_simp
        exact ⟨_, rfl, rfl, hS.keep (Below.refl _ _) 24 36 _ (by omega) (by omega) (by omega)⟩
      | 25, hi =>
        obtain rfl := Option.some.inj hi
        have va : ac.tmps.getD 36 undef = .slice (some ⟨bd, off, none⟩) 512 cap := hI.at hall 24 36 rfl rfl (by rfl)
        refine ⟨by rfl, ?_⟩
        have hq1 : (176 : Int) ≤ (cap : Int) := by omega
        have hq2 : ¬ cap = 112 := by omega
        clear hall h0
        go_simp
        exact ⟨_, rfl, rfl, hS.keep (Below.refl _ _) 25 37 _ (by omega) (by omega) (by omega)⟩
      | 26, hi =>
        obtain rfl := Option.some.inj hi
        have va : ac.tmps.getD 37 undef = .slice (some ⟨bd, off + 112, none⟩) 64 (cap - 112) := hI.at hall 25 37 rfl rfl (by rfl)
        refine ⟨by rfl, ?_⟩
        clear hall h0
        go_simp
        have hr := Rd.cut2 112 64 (HRW.out wz hS.1) (by omega) (by rw [HZ0.out]; omega)
        refine (rootOf_any _ (mR zs 112) _ hr (bytes_cut HB.out 112 64) (by unfold mR; rw [List.length_take, List.length_drop, HZ0.out]; rfl)).mono ?_
        rintro e w' ⟨rfl, hb⟩
        exact ⟨_, rfl, rfl, hS.keep hb 26 38 _ (by omega) (by omega) (by omega), fun _ _ h => h⟩
      | 27, hi =>
        obtain rfl := Option.some.inj hi
        have v0 : ac.tmps.getD 14 undef = .int .i64 (mg zs 8 8) := hI.at hall 2 14 rfl rfl (by rfl)
        have v1 : ac.tmps.getD 17 undef = .int .i64 (mg zs 16 4) := hI.at hall 5 17 rfl rfl (by rfl)
        have v2 : ac.tmps.getD 20 undef = .int .i64 (mg zs 20 4) := hI.at hall 8 20 rfl rfl (by rfl)
        have v3 : ac.tmps.getD 23 undef = .int .i64 (mg zs 24 8) := hI.at hall 11 23 rfl rfl (by rfl)
        have v4 : ac.tmps.getD 26 undef = .int .i64 (mg zs 32 8) := hI.at hall 14 26 rfl rfl (by rfl)
        have v5 : ac.tmps.getD 29 undef = .int .i64 (mg zs 40 4) := hI.at hall 17 29 rfl rfl (by rfl)
        have v6 : ac.tmps.getD 32 undef = .int .i64 (mg zs 44 4) := hI.at hall 20 32 rfl rfl (by rfl)
        have v7 : ac.tmps.getD 35 undef = .agg (cellsI (rootI (mS (mR zs 48)) (gwords (mR zs 48) 12) (mP (mR zs 48)) (mQ (mR zs 48)))) := hI.at hall 23 35 rfl rfl (by rfl)
        have v8 : ac.tmps.getD 38 undef = .agg (cellsI (rootI (mS (mR zs 112)) (gwords (mR zs 112) 12) (mP (mR zs 112)) (mQ (mR zs 112)))) := hI.at hall 26 38 rfl rfl (by rfl)
        refine ⟨by rfl, wp_buildV 37 _ rfl (cellsI XF) ?_ ⟨_, rfl, rfl, hS.keep (Below.refl _ _) 27 39 _ (by omega) (by omega) (by omega), fun _ _ h => h⟩⟩
        have hl : ∀ k : Nat, ac.eval (.tmp k) = ac.tmps.getD k undef := fun k => by first | rfl | simp [Act.eval]
        simp only [List.map_toArray, List.map_cons, List.map_nil, hl, v0, v1, v2, v3, v4, v5, v6, v7, v8]
        rw [HXF.out]
        exact build_fs _ _ _ _ _ _ _ _ _ _ _ _ _ _ _ (gwords_len _ _) (gwords_len _ _)
      | 28, hi =>
        obtain rfl := Option.some.inj hi
        refine ⟨by rfl, ?_⟩
        have HM := hide (hS.made h0)
        clear hall h0 hS
        go_simp
        exact ⟨_, rfl, trivial, HM.out, fun _ _ h => h⟩
      | 29, hi =>
        obtain rfl := Option.some.inj hi
        have v27 : ac.tmps.getD 39 undef = .agg (cellsI XF) := hI.at hall 27 39 rfl rfl (by rfl)
        have h28 : listed.getD 28 false = true := listed_of hall 28 (by rfl)
        obtain ⟨g, k1, k2, k3⟩ := hS.2.2.2.2 h28
        refine ⟨by rfl, ?_⟩
        refine wp_store_row 37 _ _ rfl g (cellsI XF) (by exact k1) (by exact v27) 37 _ k3 (by rw [HXZ.out]; exact info68) (by split <;> (first | rfl | (rw [HXZ.out]; rfl))) (cellsI_one _) ?_
        exact ⟨undef, rfl, trivial, hS.put g k1 k2 _ k3 _ h28, fun _ _ h => h⟩
    case hfin =>
      intro listed ac wz hl hI
      refine NoPanic.normal ?_
      have f0 : ac.tmps.getD 0 undef = .slice (some ⟨bd, off, none⟩) 512 cap := hI.fix 0 _ (by simp)
      have f2 : ac.tmps.getD 2 undef = .pointer (some ⟨w.heap.size, 0, none⟩) := hI.fix 2 _ (by simp)
      have f3 : ac.tmps.getD 3 undef = .int .i64 0 := hI.fix 3 _ (by simp)
      obtain ⟨hBz, _, _, _, h5⟩ := hI.held
      obtain ⟨g, f4, hgW, hgB⟩ := h5 (hl 28 (by decide))
      rw [if_pos (hl 29 (by decide))] at hgB
      have hsz := hI.sz
      have hdf := hI.df
      clear hI hl h5
      obtain ⟨tm, dfs⟩ := ac
      simp only at f0 f2 f3 f4 hsz hdf
      subst hdf
      have hT := tmps72 tm hsz
      rw [f0, f2, f3, f4] at hT
      generalize tm.getD 1 undef = t1 at hT
      generalize tm.getD 5 undef = t5 at hT
      generalize tm.getD 6 undef = t6 at hT
      generalize tm.getD 7 undef = t7 at hT
      generalize tm.getD 8 undef = t8 at hT
      generalize tm.getD 9 undef = t9 at hT
      generalize tm.getD 10 undef = t10 at hT
      generalize tm.getD 11 undef = t11 at hT
      generalize tm.getD 12 undef = t12 at hT
      generalize tm.getD 13 undef = t13 at hT
      generalize tm.getD 14 undef = t14 at hT
      generalize tm.getD 15 undef = t15 at hT
      generalize tm.getD 16 undef = t16 at hT
      generalize tm.getD 17 undef = t17 at hT
      generalize tm.getD 18 undef = t18 at hT
      generalize tm.getD 19 undef = t19 at hT
      generalize tm.getD 20 undef = t20 at hT
      generalize tm.getD 21 undef = t21 at hT
      generalize tm.getD 22 undef = t22 at hT
      generalize tm.getD 23 undef = t23 at hT
      generalize tm.getD 24 undef = t24 at hT
      generalize tm.getD 25 undef = t25 at hT
      generalize tm.getD 26 undef = t26 at hT
      generalize tm.getD 27 undef = t27 at hT
      generalize tm.getD 28 undef = t28 at hT
      generalize tm.getD 29 undef = t29 at hT
      generalize tm.getD 30 undef = t30 at hT
      generalize tm.getD 31 undef = t31 at hT
      generalize tm.getD 32 undef = t32 at hT
      generalize tm.getD 33 undef = t33 at hT
      generalize tm.getD 34 undef = t34 at hT
      generalize tm.getD 35 undef = t35 at hT
      generalize tm.getD 36 undef = t36 at hT
      generalize tm.getD 37 undef = t37 at hT
      generalize tm.getD 38 undef = t38 at hT
      generalize tm.getD 39 undef = t39 at hT
      generalize tm.getD 40 undef = t40 at hT
      generalize tm.getD 41 undef = t41 at hT
      generalize tm.getD 42 undef = t42 at hT
      generalize tm.getD 43 undef = t43 at hT
      generalize tm.getD 44 undef = t44 at hT
      generalize tm.getD 45 undef = t45 at hT
      generalize tm.getD 46 undef = t46 at hT
      generalize tm.getD 47 undef = t47 at hT
      generalize tm.getD 48 undef = t48 at hT
      generalize tm.getD 49 undef = t49 at hT
      generalize tm.getD 50 undef = t50 at hT
      generalize tm.getD 51 undef = t51 at hT
      generalize tm.getD 52 undef = t52 at hT
      generalize tm.getD 53 undef = t53 at hT
      generalize tm.getD 54 undef = t54 at hT
      generalize tm.getD 55 undef = t55 at hT
      generalize tm.getD 56 undef = t56 at hT
      generalize tm.getD 57 undef = t57 at hT
      generalize tm.getD 58 undef = t58 at hT
      generalize tm.getD 59 undef = t59 at hT
      generalize tm.getD 60 undef = t60 at hT
      generalize tm.getD 61 undef = t61 at hT
      generalize tm.getD 62 undef = t62 at hT
      generalize tm.getD 63 undef = t63 at hT
      generalize tm.getD 64 undef = t64 at hT
      generalize tm.getD 65 undef = t65 at hT
      generalize tm.getD 66 undef = t66 at hT
      generalize tm.getD 67 undef = t67 at hT
      generalize tm.getD 68 undef = t68 at hT
      generalize tm.getD 69 undef = t69 at hT
      generalize tm.getD 70 undef = t70 at hT
      generalize tm.getD 71 undef = t71 at hT
      clear hsz f0 f2 f3 f4
      subst hT
      have HBz := hide hBz
      have hgl := hgB.lt
      have KG := hide hgB
      clear hBz hgB
      obtain ⟨P37, hP37⟩ : ∃ P37, P37 = fsI (mg zs 8 8) (mg zs 16 4) (mg zs 20 4) (mg zs 24 8) (mg zs 32 8) (mg zs 40 4) (mg zs 44 4) (mS (mR zs 48)) (gwords (mR zs 48) 12) (mP (mR zs 48)) (mQ (mR zs 48)) (mS (mR zs 112)) (gwords (mR zs 112) 12) (mP (mR zs 112)) (mQ (mR zs 112)) [] := ⟨_, rfl⟩
      have HPL := hide (show P37.length = 37 from by rw [hP37]; unfold fsI; simp only [List.length_append, rootI_len _ _ _ _ (gwords_len _ _), List.length_cons, List.length_nil])
      have HPE := hide (show ∀ sn, P37 ++ sn = fsI (mg zs 8 8) (mg zs 16 4) (mg zs 20 4) (mg zs 24 8) (mg zs 32 8) (mg zs 40 4) (mg zs 44 4) (mS (mR zs 48)) (gwords (mR zs 48) 12) (mP (mR zs 48)) (mQ (mR zs 48)) (mS (mR zs 112)) (gwords (mR zs 112) 12) (mP (mR zs 112)) (mQ (mR zs 112)) sn from fun sn => by rw [hP37]; simp [fsI])
      have KG1 := hide (show Blk wz g (cellsI (P37 ++ List.replicate (68 - P37.length) 0)) 37 from by rw [HPL.out, HPE.out, ← HXF.out]; exact KG.out)
      clear hP37 KG
      go_wp2
      go_loopw [5, 40] (fun _ i wr => ∃ k : Nat, k ≤ 31 ∧ i = .int .i64 k ∧ Blk wr g (cellsI ((P37 ++ mSn zs k) ++ List.replicate (68 - (P37 ++ mSn zs k).length) 0)) 37 ∧ Below W.heap.size W wr ∧ wz.heap.size ≤ wr.heap.size) (fun _ i _ => 31 - (intOf i).toNat)
      case atStart => exact ⟨0, by omega, rfl, by have h := KG1.out; simpa [mSn] using h, HBz.out, Nat.le_refl _⟩
      case round =>
        clear KG1 HBz
        obtain ⟨k, hk, rfl, hkb, hB, hwz⟩ := hrel
        have HPS := hide (show (P37 ++ mSn zs k).length = 37 + k from by rw [List.length_append, HPL.out, mSn_len])
        have HK := hide (And.intro hkb hB)
        clear hkb hB
        by_cases hlt : k < 31
        · have hr := Rd.cut2 (176 + 4 * k) 4 (HRW.out wr HK.out.2) (by omega) (by rw [HZ0.out]; omega)
          have HRd := hide hr
          clear hr
          have c1 : wr.cell? ⟨g, 37 + k, none⟩ = some (.int .i64 0) := (HK.out.1.cell (37 + k)).trans (by rw [← HPS.out]; exact pre_cell _ 68 (by rw [HPS.out]; omega))
          have f1 := HK.out.1.frozen (37 + k)
          have HS1 := hide (show Blk (wr.setCell ⟨g, 37 + k, none⟩ (.int .i64 (mg zs (176 + 4 * k) 4))) g (cellsI ((P37 ++ mSn zs (k + 1)) ++ List.replicate (68 - (P37 ++ mSn zs (k + 1)).length) 0)) 37 from by
            have h2 := HK.out.1.set (37 + k) (.int .i64 (mg zs (176 + 4 * k) 4))
            rw [cellsI_set, ← HPS.out, pre_set _ 68 _ (by rw [HPS.out]; omega)] at h2
            rw [mSn_succ, ← List.append_assoc, ← HPS.out]
            exact h2)
          obtain ⟨q, hq⟩ : ∃ q : Nat, q = 176 + 4 * k := ⟨_, rfl⟩
          rw [← hq] at HRd HS1
          have hq3 : q + 4 ≤ cap := by omega
          have hq4 : ¬ cap = q := by omega
          have hsub : q + 4 - q = 4 := by omega
          have hqa : (176 : Int) + 4 * (k : Int) = (q : Int) := by omega
          have hqb : (180 : Int) + 4 * (k : Int) = (q : Int) + 4 := by omega
          have hqs : q ≤ 300 := by omega
          clear hq
          go_wp2_with (go_at_call 22; fail)
          refine (get_any _ ((zs.drop q).take 4) _ (by first | exact HRd.out | (rw [hsub]; exact HRd.out)) (by rw [List.length_take]; omega) (bytes_cut HB.out q 4)).mono ?_
          rintro e w' ⟨rfl, rfl⟩
          have e1 : ((gval ((zs.drop q).take 4) : Nat) : Int) = mg zs q 4 := rfl
          rw [e1]
          go_wp2
          go_roundw
          case rel => exact ⟨k + 1, by omega, by go_num, HS1.out, HK.out.2.setCell (show W.heap.size ≤ g by omega) _, by simpa using hwz⟩
          case measure => simp [intOf]; omega
        · have e31 : k = 31 := by omega
          subst e31
          obtain ⟨Y, hY⟩ : ∃ Y, Y = fsI (mg zs 8 8) (mg zs 16 4) (mg zs 20 4) (mg zs 24 8) (mg zs 32 8) (mg zs 40 4) (mg zs 44 4) (mS (mR zs 48)) (gwords (mR zs 48) 12) (mP (mR zs 48)) (mQ (mR zs 48)) (mS (mR zs 112)) (gwords (mR zs 112) 12) (mP (mR zs 112)) (mQ (mR zs 112)) (mSn zs 31) := ⟨_, rfl⟩
          have HYB := hide (show Blk wr g (cellsI Y) 37 from by
            have h1 := HK.out.1
            rw [HPS.out, show 68 - (37 + 31) = 0 from rfl, List.replicate_zero, List.append_nil, HPE.out, ← hY] at h1
            exact h1)
          have HYL := hide (show (cellsI Y).size = 68 from by rw [hY, cellsI_size]; exact fsI_len _ _ _ _ _ _ _ _ _ _ _ _ _ _ _ _ (gwords_len _ _) (gwords_len _ _) (mSn_len _ _))
          have HE := hide (fun w => specFs_any (mg zs 8 8) (mg zs 16 4) (mg zs 20 4) (mg zs 24 8) (mg zs 32 8) (mg zs 40 4) (mg zs 44 4) (mS (mR zs 48)) (gwords (mR zs 48) 12) (mP (mR zs 48)) (mQ (mR zs 48)) (mS (mR zs 112)) (gwords (mR zs 112) 12) (mP (mR zs 112)) (mQ (mR zs 112)) (mSn zs 31) w (gwords_len _ _) (gwords_len _ _) (mSn_len _ _))
          obtain ⟨E, hE⟩ : ∃ E, E = encFs (mg zs 8 8) (mg zs 16 4) (mg zs 20 4) (mg zs 24 8) (mg zs 32 8) (mg zs 40 4) (mg zs 44 4) (mS (mR zs 48)) (gwords (mR zs 48) 12) (mP (mR zs 48)) (mQ (mR zs 48)) (mS (mR zs 112)) (gwords (mR zs 112) 12) (mP (mR zs 112)) (mQ (mR zs 112)) (mSn zs 31) := ⟨_, rfl⟩
          obtain ⟨RF, hRF⟩ : ∃ RF, RF = rightF (mg zs 8 8) (mg zs 16 4) (mg zs 20 4) (mg zs 24 8) (mg zs 32 8) (mg zs 40 4) (mg zs 44 4) (mS (mR zs 48)) (gwords (mR zs 48) 12) (mP (mR zs 48)) (mQ (mR zs 48)) (mS (mR zs 112)) (gwords (mR zs 112) 12) (mP (mR zs 112)) (mQ (mR zs 112)) (mSn zs 31) := ⟨_, rfl⟩
          obtain ⟨cF, hcF⟩ : ∃ cF, cF = codeFs (mg zs 8 8) (mg zs 16 4) (mg zs 20 4) (mg zs 24 8) (mg zs 32 8) (mg zs 40 4) (mg zs 44 4) (mS (mR zs 48)) (gwords (mR zs 48) 12) (mP (mR zs 48)) (mQ (mR zs 48)) (mS (mR zs 112)) (gwords (mR zs 112) 12) (mP (mR zs 112)) (mQ (mR zs 112)) (mSn zs 31) := ⟨_, rfl⟩
          have HEl := hide (show E.length ≤ 512 ∧ (∀ z ∈ E, 0 ≤ z ∧ z < 256) ∧ (cF = if RF = true then 0 else 7) from ⟨by rw [hE]; exact encFs_len _ _ _ _ _ _ _ _ _ _ _ _ _ _ _ _ (gwords_len _ _) (gwords_len _ _) (mSn_len _ _), by rw [hE]; exact encFs_bd _ _ _ _ _ _ _ _ _ _ _ _ _ _ _ _, by rw [hcF, hRF]; rfl⟩)
          have HOk := hide (show okFs zs = (RF && decide (E = zs)) from by unfold okFs; rw [decide_eq_true HZ0.out, Bool.true_and, hRF, hE])
          have HDec := hide (show decFs zs = if okFs zs = true then Y else noFs from by unfold decFs; rw [hY])
          rw [← hY, ← hE, ← hcF] at HE
          have HEnc := HE
          clear hY hE hRF hcF HE
          go_wp2_with (first | (refine wpList_load_row rfl 37 _ rfl g rfl 37 (cellsI Y) (0, 0) _ HYB.out Tryz.underlying37 rfl (by rw [HYL.out]; exact info68) ?_) | (go_at_call 32; fail))
          refine (HEnc.out _).mono ?_
          rintro e w5 ⟨v5, rfl, o5, b5⟩
          have K5 := hide (show Blk w5 g (cellsI Y) 37 ∧ Blk w5 w.heap.size (cellsI noFs) 37 ∧ Below w.heap.size w w5 ∧ Rd .u8 w5 v5 E ∧ Below W.heap.size W w5 from by
            have hWr := HK.out.2
            have hgr := HYB.out.lt
            refine ⟨HYB.out.below b5 hgr, ?_, ?_, Rd.own o5, hWr.trans (b5.mono hWr.size)⟩
            · exact ((KW.out.1).below (hWr.trans (b5.mono hWr.size)) (by omega))
            · exact KW.out.2.trans ((hWr.trans (b5.mono hWr.size)).mono (by omega)))
          clear o5 b5
          cases hrf : RF with
          | false =>
            have hc7 : cF = 7 := by rw [HEl.out.2.2, hrf]; rfl
            rw [hc7]
            have HF := hide (show decFs zs = noFs ∧ codeDF zs = 21 from by
              have ho : okFs zs = false := by rw [HOk.out, hrf]; rfl
              exact ⟨by rw [HDec.out, ho]; rfl, by unfold codeDF; rw [ho]; rfl⟩)
            clear hc7
            go_wp2_with (refine wpList_store_row rfl 37 _ _ rfl w.heap.size (cellsI noFs) rfl rfl 37 _ K5.out.2.1 info68 rfl (cellsI_one _) ?_)
            refine bodyPost_ret (v := .tuple #[.agg (cellsI noFs), .int .i64 21]) ?_ rfl ⟨by rw [HF.out.1, HF.out.2], below_setRow K5.out.2.2.1 (Nat.le_refl _) _⟩
            exact results_row_tmp rfl _ _ w.heap.size 37 (cellsI noFs) (0, 0) _ _ rfl rfl (K5.out.2.1.row _) Tryz.underlying37 rfl info68
          | true =>
            have hc0 : cF = 0 := by rw [HEl.out.2.2, hrf]; rfl
            rw [hc0]
            clear hc0
            have v1 : ∀ w', Below W.heap.size W w' → (convert 22 9 (.slice (some ⟨bd, off, none⟩) 512 cap)).run Tryz.prog w' = .ok (.string (strOfNums zs)) w' := fun w' hb => by
              obtain ⟨b6, o6, c6, e6, _, _, _, hc6⟩ := (HRW.out w' hb).partsC (by rw [HZ0.out]; omega)
              injection e6 with e6 e7 e8
              injection e6 with e6
              injection e6 with e6 e9 e10
              subst e6 e9 e8
              exact run_convert_bytes_arg (P := Tryz.prog) w' 22 5 Tryz.underlying22 Tryz.underlying5 bd off 512 cap zs HZ0.out (fun i hi => hc6 i (by rw [HZ0.out]; exact hi)) 9 Tryz.underlying9
            have v1 := v1 w5 K5.out.2.2.2.2
            by_cases hEz : E = zs
            · obtain ⟨g5, of5, cp5, rfl, _, _, _, hc5⟩ := K5.out.2.2.2.1.partsC (by rw [hEz, HZ0.out]; omega)
              have v2 := run_convert_bytes_arg (P := Tryz.prog) w5 22 5 Tryz.underlying22 Tryz.underlying5 g5 of5 E.length cp5 E rfl (fun i hi => hc5 i hi) 9 Tryz.underlying9
              have HF := hide (show decFs zs = Y ∧ codeDF zs = 0 from by
                have ho : okFs zs = true := by rw [HOk.out, hrf, decide_eq_true hEz]; rfl
                exact ⟨by rw [HDec.out, ho]; rfl, by unfold codeDF; rw [ho]; rfl⟩)
              rw [hEz] at v2 ⊢
              rw [HZ0.out] at v2 ⊢
              clear hc5 hEz
              generalize strOfNums zs = S at v1 v2
              go_wp2_with (first | (refine wpList_load_row rfl 37 _ rfl g rfl 37 (cellsI Y) (0, 0) _ K5.out.1 Tryz.underlying37 rfl (by rw [HYL.out]; exact info68) ?_) | (refine wpList_store_row rfl 37 _ _ rfl w.heap.size (cellsI Y) rfl rfl 37 _ K5.out.2.1 (by rw [HYL.out]; exact info68) (by rw [HYL.out]; rfl) (cellsI_one _) ?_))
              refine bodyPost_ret (v := .tuple #[.agg (cellsI Y), .int .i64 0]) ?_ rfl ⟨by rw [HF.out.1, HF.out.2], below_setRow K5.out.2.2.1 (Nat.le_refl _) _⟩
              exact results_row_tmp rfl _ _ w.heap.size 37 (cellsI Y) (0, 0) _ _ rfl rfl (K5.out.2.1.row _) Tryz.underlying37 rfl (by rw [HYL.out]; exact info68)
            · have HF := hide (show decFs zs = noFs ∧ codeDF zs = 21 from by
                have ho : okFs zs = false := by rw [HOk.out, hrf, decide_eq_false hEz]; rfl
                exact ⟨by rw [HDec.out, ho]; rfl, by unfold codeDF; rw [ho]; rfl⟩)
              have hne : ¬ (strOfNums E).toList = (strOfNums zs).toList := fun h => hEz (strOf_injF HEl.out.2.1 HB.out h)
              obtain ⟨a5, cp5, rfl⟩ : ∃ a cp, v5 = .slice a E.length cp := by obtain ⟨a, cp, h1, _⟩ := K5.out.2.2.2.1; exact ⟨a, cp, h1⟩
              have v2 := conv_rdF K5.out.2.2.2.1
              clear hEz
              generalize strOfNums zs = S1 at v1 hne
              generalize strOfNums E = S2 at v2 hne
              have hne1 : (S2.toList == S1.toList) = false := by simpa using hne
              clear hne
              go_wp2_with (refine wpList_store_row rfl 37 _ _ rfl w.heap.size (cellsI noFs) rfl rfl 37 _ K5.out.2.1 info68 rfl (cellsI_one _) ?_)
              refine bodyPost_ret (v := .tuple #[.agg (cellsI noFs), .int .i64 21]) ?_ rfl ⟨by rw [HF.out.1, HF.out.2], below_setRow K5.out.2.2.1 (Nat.le_refl _) _⟩
              exact results_row_tmp rfl _ _ w.heap.size 37 (cellsI noFs) (0, 0) _ _ rfl rfl (K5.out.2.1.row _) Tryz.underlying37 rfl info68
  · have hq : ((zs.length : Int) != 512) = true := by simp; omega
    obtain ⟨a, cap, rfl⟩ : ∃ a cap, v = .slice a zs.length cap := by obtain ⟨a, cap, h1, _⟩ := h; exact ⟨a, cap, h1⟩
    have HF := hide (show decFs zs = noFs ∧ codeDF zs = 21 from by
      have ho : okFs zs = false := by unfold okFs; rw [decide_eq_false hz]; rfl
      exact ⟨by unfold decFs; rw [ho]; rfl, by unfold codeDF; rw [ho]; rfl⟩)
    rw [HF.out.1, HF.out.2]
    clear hz
    have KW := hide (show Blk (w.alloc (.cells (cellsI noFs) 37)) w.heap.size (cellsI noFs) 37 ∧ Below w.heap.size w (w.alloc (.cells (cellsI noFs) 37)) from ⟨Blk.new _ _ _, (Below.refl _ _).alloc (Nat.le_refl _) _⟩)
    go_enter Tryz.func19, Tryz.ntmps19
    go_wp2_with (refine wpList_store_row rfl 37 _ _ rfl w.heap.size (cellsI noFs) rfl rfl 37 _ KW.out.1 info68 rfl (cellsI_one _) ?_)
    refine bodyPost_ret (v := .tuple #[.agg (cellsI noFs), .int .i64 21]) ?_ rfl ⟨rfl, below_setRow KW.out.2 (Nat.le_refl _) _⟩
    exact results_row_tmp rfl _ _ w.heap.size 37 (cellsI noFs) (0, 0) _ _ rfl rfl (KW.out.1.row _) Tryz.underlying37 rfl info68
end Go.Proofs.YtkbbnflblkkepaaGreatDoor
