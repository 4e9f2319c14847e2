/- DecodeInode of the model: what it tells; the law on DecodeInode, walked. The model's DecodeTable; what both tell is the same. -/
import Derived.Test.YtlgafpjmifacmaaDoorZt38
import Derived.Test.YtlgafpjmifacmaaDoorZt30
import Derived.Test.YtlgafpjmifacmaaDoorZt29
import Derived.Test.YtlgafpjmifacmaaDoorZt37
import Derived.Great.BuildSlice
import Derived.Great.FillDense
namespace Go.Proofs.YtlgafpjmifacmaaDoor
set_option linter.unusedVariables false
set_option linter.unusedSimpArgs false
open Go.RowKit

theorem le_bd : ∀ (m n : Nat), ∀ z ∈ le m n, 0 ≤ z ∧ z < 256
  | 0, _, z, h => by cases h
  | m + 1, n, z, h => by
    rw [le, List.mem_cons] at h
    rcases h with rfl | h
    · omega
    · exact le_bd m _ z h
theorem rep_bd (n : Nat) : ∀ z ∈ List.replicate n (0 : Int), 0 ≤ z ∧ z < 256 := fun z h => by rw [(List.mem_replicate.1 h).2]; omega
theorem bytesR_bd (s : Int) (ds : List Int) (p q : Int) : ∀ z ∈ bytesR s ds p q, 0 ≤ z ∧ z < 256 := by
  intro z h
  unfold bytesR bytesW at h
  rw [List.mem_append] at h
  rcases h with h | h
  · exact le_bd _ _ z h
  · obtain ⟨v, _, hv⟩ := List.mem_flatMap.1 h
    exact le_bd _ _ z hv
theorem encI_bd (k0 k1 k2 k3 k4 k5 k6 k7 k8 s : Int) (ds : List Int) (p q : Int) : ∀ z ∈ encI k0 k1 k2 k3 k4 k5 k6 k7 k8 s ds p q, 0 ≤ z ∧ z < 256 := by
  intro z h
  unfold encI at h
  split at h
  · unfold bytesIno at h
    simp only [List.mem_append] at h
    rcases h with (((((((((((h | h) | h) | h) | h) | h) | h) | h) | h) | h) | h) | h) | h
    all_goals first | exact le_bd _ _ z h | exact rep_bd _ z h | exact bytesR_bd _ _ _ _ z h
  · cases h
theorem zero_rightR {s : Int} {ds : List Int} {p q : Int} (hd : ds.length = 12) (hs : s = 0) (hp : ∀ z ∈ ds ++ [p, q], z = 0) : rightR s ds p q = true := by
  obtain ⟨d0, d1, d2, d3, d4, d5, d6, d7, d8, d9, d10, d11, rfl⟩ := list12 hd
  simp only [List.cons_append, List.nil_append, List.forall_mem_cons] at hp
  obtain ⟨rfl, rfl, rfl, rfl, rfl, rfl, rfl, rfl, rfl, rfl, rfl, rfl, rfl, rfl, _⟩ := hp
  subst hs
  decide
theorem rightIno_root {k0 k1 k2 k3 k4 k5 k6 k7 k8 s : Int} {ds : List Int} {p q : Int} (hd : ds.length = 12) (h : rightIno k0 k1 k2 k3 k4 k5 k6 k7 k8 s ds p q = true) : rightR s ds p q = true := by
  unfold rightIno at h
  rw [Bool.or_eq_true] at h
  rcases h with h | h
  · rw [zeroB_iff] at h
    refine zero_rightR hd (h s (by simp [inoI, rootI])) (fun z hz => h z ?_)
    unfold inoI rootI
    exact List.mem_append_right _ (List.mem_cons_of_mem _ hz)
  · rw [Bool.and_eq_true] at h
    exact h.2
theorem eight_right (ts : List Int) (hX : unle ts < 18446744073709551616) (h : (((gval ts : Nat) : Int) : Int) < 281474976710656) : gval ts = unle ts := by
  rcases eight ts hX with ⟨_, e⟩ | ⟨_, h0, _, h1⟩
  · exact e
  · unfold gval at h ⊢
    split
    · rename_i hc
      rw [if_pos hc] at h
      exact absurd h (by decide)
    · rfl
theorem enc_gaps (zs : List Int) (h : ∀ z ∈ zs, 0 ≤ z ∧ z < 256) (hz : zs.length = 128) (hR : rightIno (zs.getD 0 0) ((gval ((zs.drop 2).take 2) : Nat) : Int) ((gval ((zs.drop 4).take 2) : Nat) : Int) ((gval ((zs.drop 6).take 2) : Nat) : Int) ((gval ((zs.drop 8).take 2) : Nat) : Int) ((gval ((zs.drop 12).take 4) : Nat) : Int) ((gval ((zs.drop 16).take 8) : Nat) : Int) ((gval ((zs.drop 24).take 8) : Nat) : Int) ((gval ((zs.drop 32).take 8) : Nat) : Int) ((gval (((zs.drop 40).take 64).take 8) : Nat) : Int) (gwords ((zs.drop 40).take 64) 12) ((gval ((((zs.drop 40).take 64).drop 56).take 4) : Nat) : Int) ((gval ((((zs.drop 40).take 64).drop 60).take 4) : Nat) : Int) = true) : decide (encI (zs.getD 0 0) ((gval ((zs.drop 2).take 2) : Nat) : Int) ((gval ((zs.drop 4).take 2) : Nat) : Int) ((gval ((zs.drop 6).take 2) : Nat) : Int) ((gval ((zs.drop 8).take 2) : Nat) : Int) ((gval ((zs.drop 12).take 4) : Nat) : Int) ((gval ((zs.drop 16).take 8) : Nat) : Int) ((gval ((zs.drop 24).take 8) : Nat) : Int) ((gval ((zs.drop 32).take 8) : Nat) : Int) ((gval (((zs.drop 40).take 64).take 8) : Nat) : Int) (gwords ((zs.drop 40).take 64) 12) ((gval ((((zs.drop 40).take 64).drop 56).take 4) : Nat) : Int) ((gval ((((zs.drop 40).take 64).drop 60).take 4) : Nat) : Int) = zs) = gapsZ zs := by
  have hzp : ((zs.drop 40).take 64).length = 64 := by simp; omega
  have hbp : ∀ z ∈ ((zs.drop 40).take 64), 0 ≤ z ∧ z < 256 := bytes_cut h 40 64
  have hroot := spec_bytes ((zs.drop 40).take 64) hbp hzp (rightIno_root (gwords_len _ 12) hR)
  obtain ⟨b0, b1, b2, b3, b4, b5, b6, b7, b8, bs, bp⟩ := ino_bd (gwords_len _ 12) hR
  have e6 := eight_right _ (unle8_lt zs h 16) b6.2
  have e7 := eight_right _ (unle8_lt zs h 24) b7.2
  have e8 := eight_right _ (unle8_lt zs h 32) b8.2
  have he : encI (zs.getD 0 0) ((gval ((zs.drop 2).take 2) : Nat) : Int) ((gval ((zs.drop 4).take 2) : Nat) : Int) ((gval ((zs.drop 6).take 2) : Nat) : Int) ((gval ((zs.drop 8).take 2) : Nat) : Int) ((gval ((zs.drop 12).take 4) : Nat) : Int) ((gval ((zs.drop 16).take 8) : Nat) : Int) ((gval ((zs.drop 24).take 8) : Nat) : Int) ((gval ((zs.drop 32).take 8) : Nat) : Int) ((gval (((zs.drop 40).take 64).take 8) : Nat) : Int) (gwords ((zs.drop 40).take 64) 12) ((gval ((((zs.drop 40).take 64).drop 56).take 4) : Nat) : Int) ((gval ((((zs.drop 40).take 64).drop 60).take 4) : Nat) : Int) = bytesIno (zs.getD 0 0).toNat ((gval ((zs.drop 2).take 2) : Nat) : Int).toNat ((gval ((zs.drop 4).take 2) : Nat) : Int).toNat ((gval ((zs.drop 6).take 2) : Nat) : Int).toNat ((gval ((zs.drop 8).take 2) : Nat) : Int).toNat ((gval ((zs.drop 12).take 4) : Nat) : Int).toNat ((gval ((zs.drop 16).take 8) : Nat) : Int).toNat ((gval ((zs.drop 24).take 8) : Nat) : Int).toNat ((gval ((zs.drop 32).take 8) : Nat) : Int).toNat ((gval (((zs.drop 40).take 64).take 8) : Nat) : Int) (gwords ((zs.drop 40).take 64) 12) ((gval ((((zs.drop 40).take 64).drop 56).take 4) : Nat) : Int) ((gval ((((zs.drop 40).take 64).drop 60).take 4) : Nat) : Int) := by
    unfold encI
    rw [if_pos hR]
  cases hg : gapsZ zs with
  | true =>
    have hw := bytes_whole zs h hz hg _ _ _ _ hroot
    rw [decide_eq_true_eq, he, kind_one zs h hz]
    simp only [Int.toNat_natCast]
    rw [gval_few zs h 2 2 (by omega), gval_few zs h 4 2 (by omega), gval_few zs h 6 2 (by omega), gval_few zs h 8 2 (by omega), gval_few zs h 12 4 (by omega), e6, e7, e8]
    exact hw
  | false =>
    rw [decide_eq_false_iff_not]
    intro hn
    rw [he] at hn
    have := gaps_bytes (zs.getD 0 0).toNat ((gval ((zs.drop 2).take 2) : Nat) : Int).toNat ((gval ((zs.drop 4).take 2) : Nat) : Int).toNat ((gval ((zs.drop 6).take 2) : Nat) : Int).toNat ((gval ((zs.drop 8).take 2) : Nat) : Int).toNat ((gval ((zs.drop 12).take 4) : Nat) : Int).toNat ((gval ((zs.drop 16).take 8) : Nat) : Int).toNat ((gval ((zs.drop 24).take 8) : Nat) : Int).toNat ((gval ((zs.drop 32).take 8) : Nat) : Int).toNat ((gval (((zs.drop 40).take 64).take 8) : Nat) : Int) (gwords ((zs.drop 40).take 64) 12) ((gval ((((zs.drop 40).take 64).drop 56).take 4) : Nat) : Int) ((gval ((((zs.drop 40).take 64).drop 60).take 4) : Nat) : Int) (gwords_len _ 12)
    rw [hn, hg] at this
    cases this

theorem specDI_any (v : Value) (zs : List Int) (w : World) (h : Rd .u8 w v zs) (hbd : ∀ z ∈ zs, 0 ≤ z ∧ z < 256) :
    Calls Tryd.prog 33 #[v] w fun e w' => e = .returned (.tuple #[.agg (cellsI (decI zs)), .int .i64 (codeDI zs)]) ∧ Below w.heap.size w w' := by
  by_cases hz : zs.length = 128
  · obtain ⟨d0, d1, d2, d3, d4, d5, d6, d7, d8, d9, d10, d11, ed⟩ := list12 (gwords_len ((zs.drop 40).take 64) 12)
    have hok : okDI zs = (rightIno (zs.getD 0 0) ((gval ((zs.drop 2).take 2) : Nat) : Int) ((gval ((zs.drop 4).take 2) : Nat) : Int) ((gval ((zs.drop 6).take 2) : Nat) : Int) ((gval ((zs.drop 8).take 2) : Nat) : Int) ((gval ((zs.drop 12).take 4) : Nat) : Int) ((gval ((zs.drop 16).take 8) : Nat) : Int) ((gval ((zs.drop 24).take 8) : Nat) : Int) ((gval ((zs.drop 32).take 8) : Nat) : Int) ((gval (((zs.drop 40).take 64).take 8) : Nat) : Int) (gwords ((zs.drop 40).take 64) 12) ((gval ((((zs.drop 40).take 64).drop 56).take 4) : Nat) : Int) ((gval ((((zs.drop 40).take 64).drop 60).take 4) : Nat) : Int) && decide (encI (zs.getD 0 0) ((gval ((zs.drop 2).take 2) : Nat) : Int) ((gval ((zs.drop 4).take 2) : Nat) : Int) ((gval ((zs.drop 6).take 2) : Nat) : Int) ((gval ((zs.drop 8).take 2) : Nat) : Int) ((gval ((zs.drop 12).take 4) : Nat) : Int) ((gval ((zs.drop 16).take 8) : Nat) : Int) ((gval ((zs.drop 24).take 8) : Nat) : Int) ((gval ((zs.drop 32).take 8) : Nat) : Int) ((gval (((zs.drop 40).take 64).take 8) : Nat) : Int) (gwords ((zs.drop 40).take 64) 12) ((gval ((((zs.drop 40).take 64).drop 56).take 4) : Nat) : Int) ((gval ((((zs.drop 40).take 64).drop 60).take 4) : Nat) : Int) = zs)) := by
      unfold okDI
      rw [decide_eq_true hz, Bool.true_and]
      cases hR : rightIno (zs.getD 0 0) ((gval ((zs.drop 2).take 2) : Nat) : Int) ((gval ((zs.drop 4).take 2) : Nat) : Int) ((gval ((zs.drop 6).take 2) : Nat) : Int) ((gval ((zs.drop 8).take 2) : Nat) : Int) ((gval ((zs.drop 12).take 4) : Nat) : Int) ((gval ((zs.drop 16).take 8) : Nat) : Int) ((gval ((zs.drop 24).take 8) : Nat) : Int) ((gval ((zs.drop 32).take 8) : Nat) : Int) ((gval (((zs.drop 40).take 64).take 8) : Nat) : Int) (gwords ((zs.drop 40).take 64) 12) ((gval ((((zs.drop 40).take 64).drop 56).take 4) : Nat) : Int) ((gval ((((zs.drop 40).take 64).drop 60).take 4) : Nat) : Int) with
      | false => rfl
      | true => rw [enc_gaps zs hbd hz hR]
    have hC := specDI_128 v zs w h hbd hz _ _ _ _ _ _ _ _ _ _ _ _ d0 d1 d2 d3 d4 d5 d6 d7 d8 d9 d10 d11 rfl rfl rfl rfl rfl rfl rfl rfl rfl rfl ed rfl rfl (encI_bd _ _ _ _ _ _ _ _ _ _ _ _ _) _ _ rfl rfl
    rw [← ed] at hC
    rw [← hok] at hC
    exact hC
  · have hC := specDI_bad v zs w h hz
    have e : okDI zs = false := by unfold okDI; rw [decide_eq_false hz, Bool.false_and]
    unfold decI codeDI
    rw [e]
    exact hC
end Go.Proofs.YtlgafpjmifacmaaDoor

namespace Go.Proofs.YtlgafpjmifacmaaDoor
set_option linter.unusedVariables false
set_option linter.unusedSimpArgs false
open Go.RowKit

theorem tableSize_any (n : Nat) (w : World) (hn : n ≤ 140737488355328) : Calls Tryd.prog 32 #[.int .i64 (n : Int)] w fun e w' => e = .returned (.bool (decide (256 ≤ n) && (decide (n % 128 = 0) && decide (n ≤ 128128)))) ∧ w' = w := by
  by_cases h1 : 256 ≤ n
  · by_cases h2 : n % 128 = 0
    · have HR := hide (show (decide (256 ≤ n) && (decide (n % 128 = 0) && decide (n ≤ 128128))) = decide ((n : Int) ≤ 128128) from by simp [h1, h2]; omega)
      rw [HR.out]
      have h1' : (256 : Int) ≤ (n : Int) := by omega
      have h2' : (n : Int) % 128 = 0 := by omega
      go_enter Tryd.func32, Tryd.ntmps32
      go_wp2
      go_ret
      exact ⟨rfl, rfl⟩
    · have HR := hide (show (decide (256 ≤ n) && (decide (n % 128 = 0) && decide (n ≤ 128128))) = false from by simp [h2])
      rw [HR.out]
      have h1' : (256 : Int) ≤ (n : Int) := by omega
      have h2' : ¬ (n : Int) % 128 = 0 := by omega
      go_enter Tryd.func32, Tryd.ntmps32
      go_wp2
      go_ret
      exact ⟨rfl, rfl⟩
  · have HR := hide (show (decide (256 ≤ n) && (decide (n % 128 = 0) && decide (n ≤ 128128))) = false from by simp [h1])
    rw [HR.out]
    have h1' : ¬ (256 : Int) ≤ (n : Int) := by omega
    go_enter Tryd.func32, Tryd.ntmps32
    go_wp2
    go_ret
    exact ⟨rfl, rfl⟩
theorem wpList_build1 {P : Program} {ops : Array Oper} {rest : List Oper} {o : Oper} {a : Act} {w : World} {Q : Exit → Act → World → Prop} (hgd : o.guard = none) (t e : TypeId) (x : Operand) (ho : o.op = .buildSlice t 1 #[(0, x)]) (cells : Array Value) (hx : a.eval x = .agg cells) (i : TypeInfo) (z : Value)
    (hu : P.underlying t = some (.slice e)) (hi : P.info? e = some i) (hz : i.zero = some z) (hs : i.size = cells.size) (hp : 0 < cells.size) (hl : cells.size ≤ 1000)
    (h : wpList P ops Q rest (a.put o.dst (.slice (some ⟨w.heap.size, 0, none⟩) 1 1)) (w.alloc (.cells cells e))) : wpList P ops Q (o :: rest) a w := by
  have hf : Instr.fill (fun j => some (j * i.size, i.size)) ((Array.range (1 * i.size)).map (z.cells[· % z.cells.size]!)) [(0, Value.agg cells)] = some cells := by
    have := Great.fill_whole (s := i.size) (by omega) [.agg cells] ((Array.range (1 * i.size)).map (z.cells[· % z.cells.size]!)) (by intro v hv; simp at hv; subst hv; exact hs.symm) (by simp)
    simpa [Value.cells] using this
  have he : ((#[(0, x)] : Array (Nat × Operand)).map (fun p => (p.1, a.eval p.2))).toList = [(0, Value.agg cells)] := by simp [hx]
  exact wpList_buildSlice hgd t e 1 _ ho cells i z hu hi hz (by omega) (by omega) (by rw [← he] at hf; exact hf) h
theorem own_emptyS (w : World) (e : TypeId) (sz : Nat) : (w.alloc (.cells #[] e)).ownsRow w.heap.size e sz (.slice (some ⟨w.heap.size, 0, none⟩) 0 0) 0 [] :=
  ⟨by simp, .inr ⟨w.heap.size, 0, #[], rfl, Nat.le_refl _, heap_alloc_new w _, Nat.le_refl _, by simp, by simp, by simp⟩⟩
theorem okTo_tab (Z : List Int) (N : Nat) (hZ : Z.length = N * 24) (h2 : 2 ≤ N) (h3 : N ≤ 1001) : okTo Z N N = okTab Z N := by
  have hl := lastK_lt Z N
  have hlt : lastT Z N ≤ 1000 := by unfold lastT; omega
  have e1 : decide (2 ≤ (N : Int)) = true := by simp; omega
  have e2 : decide ((N : Int) ≤ 1001) = true := by simp; omega
  have e3 : decide (N = 0) = false := by simp; omega
  unfold okTo okTab
  rw [e1, e2, e3, decide_eq_true hlt, rowO, if_pos (by omega)]
  simp
theorem enc_num (Z : List Int) (N : Nat) (hZ : Z.length = N * 24) (h : okTab Z N = true) : (encTab Z N).length = tabN Z N * 128 := by
  have hc : allRows Z N = true := by unfold okTab at h; rw [Bool.and_eq_true] at h; exact h.1
  have ht : tabN Z N = lastT Z N + 1 := trim_last Z N hc (by omega)
  unfold encTab
  rw [if_pos h, flat_len Z N hZ, ht]
theorem readOk_at {zs : List Int} {N k : Nat} (hk : k < N) (h : codeDI (pieceB zs 128 k) ≠ 0) : readOk zs (List.range N) = false := by
  cases hr : readOk zs (List.range N) with
  | false => rfl
  | true =>
    unfold readOk at hr
    rw [List.all_eq_true] at hr
    have := hr k (by simpa using hk)
    simp at this
    exact absurd this h
set_option maxRecDepth 100000 in
set_option maxHeartbeats 1000000 in
theorem specDT_any (v : Value) (zs : List Int) (w : World) (h : Rd .u8 w v zs) (hbd : ∀ z ∈ zs, 0 ≤ z ∧ z < 256) (hz : zs.length ≤ 140737488355328) :
    Calls Tryd.prog 15 #[v] w fun e w' => ∃ v', e = .returned (.tuple #[v', .int .i64 (codeDT zs)]) ∧ w'.ownsRow w.heap.size 44 24 v' (cntDT zs) ((decDT zs).map (Value.int .i64)) ∧ Below w.heap.size w w' := by
  have HX := hide (And.intro h hbd)
  obtain ⟨a, cap, rfl, hsh⟩ := h
  clear hbd
  cases hsz : (decide (256 ≤ zs.length) && (decide (zs.length % 128 = 0) && decide (zs.length ≤ 128128))) with
  | false =>
    have HS := hide hsz
    clear hsz
    go_enter Tryd.func15, Tryd.ntmps15
    go_wp2_with (go_at_call 32; fail)
    refine (tableSize_any zs.length _ hz).mono ?_
    rintro e w1 ⟨rfl, hw1⟩
    rw [HS.out, hw1]
    clear hw1
    go_wp2
    go_ret2
    have hno : okDT zs = false := by
      cases hk : okDT zs with
      | false => rfl
      | true =>
        exfalso
        have h3 := HS.out
        unfold okDT at hk
        simp only [Bool.and_eq_true, decide_eq_true_eq] at hk
        obtain ⟨⟨hk1, hk2⟩, hk3, hk4⟩ := hk
        unfold okTo at hk3
        simp only [Bool.and_eq_true, decide_eq_true_eq] at hk3
        have hm : zs.length % 128 = 0 := by
          rcases Nat.eq_zero_or_pos (zs.length % 128) with h0 | h0
          · exact h0
          · exfalso
            have hlt : zs.length / 128 < numDT zs := by unfold numDT pcs; omega
            have hbad : codeDI (pieceB zs 128 (zs.length / 128)) ≠ 0 := by
              have hl := pieceB_len zs 128 (zs.length / 128)
              have hn : okDI (pieceB zs 128 (zs.length / 128)) = false := by
                unfold okDI
                rw [decide_eq_false (by omega), Bool.false_and]
              unfold codeDI
              rw [hn]
              decide
            rw [readOk_at hlt hbad] at hk2
            cases hk2
        have hn2 : 2 ≤ numDT zs := by have := hk3.1.1; omega
        have : 256 ≤ zs.length := by unfold numDT pcs at hn2; omega
        simp [hm, hk1, this] at h3
    rw [(okDT_not hno).1, (okDT_not hno).2.1, (okDT_not hno).2.2]
    exact ⟨_, rfl, World.ownsRow_nil _ _ _ _, Below.refl _ _⟩
  | true =>
    have HS := hide hsz
    clear hsz
    go_enter Tryd.func15, Tryd.ntmps15
    go_wp2_with (go_at_call 32; fail)
    refine (tableSize_any zs.length _ hz).mono ?_
    rintro e w1 ⟨rfl, hw1⟩
    rw [HS.out, hw1]
    clear hw1
    obtain ⟨hs1, hs2, hs3⟩ : 256 ≤ zs.length ∧ zs.length % 128 = 0 ∧ zs.length ≤ 128128 := by have h := HS.out; simpa using h
    obtain ⟨i0, hi, hz0, hz1, hz2⟩ := info_parts infoT24
    obtain ⟨b, off, rfl, hbw, hcell⟩ := hsh.2.1 (fun e => by rw [e] at hs1; simp at hs1)
    have hcapL := hsh.2.2
    have HCell := hide hcell
    obtain ⟨N, hN⟩ : ∃ N, N = zs.length / 128 := ⟨_, rfl⟩
    have hNum : numDT zs = N := by unfold numDT pcs; omega
    have HNum := hide hNum
    have hNL : zs.length = N * 128 := by omega
    have HOk := hide (show okDT zs = (readOk zs (List.range N) && (okTab (rowsDT zs) N && decide (N = tabN (rowsDT zs) N))) from by
      have hrl := rowsDT_len zs
      unfold okDT
      rw [decide_eq_true hs3, Bool.true_and, hNum, okTo_tab _ N (by rw [hrl, hNum]) (by omega) (by omega)])
    have H0 := hide (own_emptyS w 44 24)
    have hb0 := hide (show Below w.heap.size w (w.alloc (.cells #[] 44)) from (Below.refl _ _).alloc (Nat.le_refl _) _)
    clear hcell hsh hNum hN HS
    go_wp2
    go_loopw [4, 5] (fun o i wr => ∃ k : Nat, k ≤ N ∧ i = .int .i64 ((k * 128 : Nat) : Int) ∧ wr.ownsRow w.heap.size 44 24 o k ((readZ zs (List.range k)).map (Value.int .i64)) ∧ readOk zs (List.range k) = true ∧ Below w.heap.size w wr) (fun _ i _ => zs.length + 128 - (intOf i).toNat)
    case atStart => exact ⟨0, by omega, rfl, by simpa [readZ] using H0.out, rfl, hb0.out⟩
    case round =>
      clear H0 hb0
      obtain ⟨k, hk, rfl, hown, hok, hb1⟩ := hrel
      obtain ⟨la, lc, rfl⟩ := ownT_shape hown
      have HOw := hide hown
      have HRk := hide hok
      have HB := hide hb1
      clear hown hok
      by_cases hlt : k < N
      · have hl1 : k * 128 + 128 ≤ zs.length := by omega
        have HRd := hide (show Rd .u8 wr (.slice (some ⟨b, off + k * 128, none⟩) 128 (cap - k * 128)) (pieceB zs 128 k) from Rd.cut (k * 128) 128 (Nat.lt_of_lt_of_le hbw hb1.size) hcapL.2 hcapL.1 (fun i hi => (hb1.cell (p := ⟨b, off + i, none⟩) hbw).trans (HCell.out i hi)) hl1)
        have HBd := hide (pieceB_bd HX.out.2 128 k)
        have HSn := hide (show readZ zs (List.range (k + 1)) = readZ zs (List.range k) ++ decI (pieceB zs 128 k) from by rw [List.range_succ, readZ_snoc])
        have HSk := hide (show readOk zs (List.range (k + 1)) = (codeDI (pieceB zs 128 k) == 0) from by rw [List.range_succ, readOk_snoc, HRk.out, Bool.true_and])
        have HBad := hide (fun h => readOk_at (zs := zs) hlt h)
        have HN := hide (decI_len (pieceB zs 128 k))
        have hm1 : cap ≤ 9223372036854775807 := hcapL.2
        have hm2 : ((k * 128 : Nat) : Int) + 128 ≤ (cap : Int) := by have := hcapL.1; omega
        clear hb1
        go_wp2_with (go_at_call 33; fail)
        refine (specDI_any _ (pieceB zs 128 k) _ HRd.out HBd.out).mono ?_
        rintro e w3 ⟨rfl, b3⟩
        generalize decI (pieceB zs 128 k) = r at HN HSn ⊢
        generalize codeDI (pieceB zs 128 k) = cd at HSk HBad ⊢
        have HZ := hide (show (cellsI r).size = 24 from by rw [cellsI_size]; exact HN.out)
        have HK := hide (show Blk (w3.alloc (.cells (cellsI (List.replicate 24 0)) 44)) w3.heap.size (cellsI (List.replicate 24 0)) 44 ∧ Below w3.heap.size w3 (w3.alloc (.cells (cellsI (List.replicate 24 0)) 44)) from ⟨Blk.new _ _ _, (Below.refl _ _).alloc (Nat.le_refl _) _⟩)
        have O3 := hide (own_below HOw.out b3)
        have B3 := hide (HB.out.trans (b3.mono HB.out.size))
        clear b3 HRd HBd HOw HB
        by_cases hcd : cd = 0
        · subst hcd
          have HOk2 := hide (show readOk zs (List.range (k + 1)) = true from by rw [HSk.out]; rfl)
          go_wp2_with (first | (refine wpList_store_new w3.heap.size w3 rfl 44 _ _ rfl w3.heap.size (cellsI r) rfl rfl 44 (cellsI (List.replicate 24 0)) HK.out.1 (by rw [HZ.out]; exact info24) (by rw [HZ.out]; rfl) (cellsI_one _) HK.out.2 (Nat.le_refl _) ?_; intro w4 k4 b4; have K4 := hide k4; have O4 := hide (own_below O3.out b4); have B4 := hide (B3.out.trans (b4.mono B3.out.size)); clear k4 b4) | (refine wpList_load_row rfl 44 _ rfl w3.heap.size rfl 44 (cellsI r) (0, 0) _ K4.out Tryd.underlying44 rfl (by rw [HZ.out]; exact info24) ?_) | (refine wpList_build1 rfl 27 44 _ rfl (cellsI r) rfl i0 _ Tryd.underlying27 hi hz0 (by rw [hz1, HZ.out]) (by rw [HZ.out]; omega) (by rw [HZ.out]; omega) ?_) | (at_builtin; refine append_fresh _ rfl (.tmp 32) (.tmp 34) 27 rfl w.heap.size 44 i0 (.agg (cellsI (List.replicate 24 0))) 24 192 Tryd.underlying27 hi hz0 hz1 hz2 rfl (by decide) _ _ _ rfl (O4.out.alloc _) ⟨w4.heap.size, 0, none⟩ 1 1 (r.map (Value.int .i64)) rfl (by rw [List.length_map, HN.out]) (cells_new w4 r _) (ints_oneCell _ _) (by omega) (by unfold maxLen; omega) (by omega) (by have := B4.out.size; simp; omega) ?_; intro v7 w7 o7 g7 f7; have O7 := hide o7; have G7 := hide g7; clear o7 g7 f7))
          have HW := hide (show w7.ownsRow w.heap.size 44 24 v7 (k + 1) ((readZ zs (List.range (k + 1))).map (Value.int .i64)) ∧ Below w.heap.size w w7 from by
            have hs4 := B4.out.size
            refine ⟨?_, (B4.out.alloc hs4 _).grown G7.out (by simp; omega) (fun r h => (O4.out.lt r h).1)⟩
            rw [HSn.out, List.map_append]
            exact O7.out)
          go_roundw
          case rel => exact ⟨k + 1, by omega, by go_num, HW.out.1, HOk2.out, HW.out.2⟩
          case measure => simp [intOf]; omega
        · have hcb : (cd != 0) = true := by simpa using hcd
          have HNo := hide (show okDT zs = false from by rw [HOk.out, HBad.out hcd, Bool.false_and])
          go_wp2_with (first | (refine wpList_store_new w3.heap.size w3 rfl 44 _ _ rfl w3.heap.size (cellsI r) rfl rfl 44 (cellsI (List.replicate 24 0)) HK.out.1 (by rw [HZ.out]; exact info24) (by rw [HZ.out]; rfl) (cellsI_one _) HK.out.2 (Nat.le_refl _) ?_; intro w4 k4 b4; have B4 := hide (B3.out.trans (b4.mono B3.out.size)); clear k4 b4))
          go_ret2
          rw [(okDT_not HNo.out).1, (okDT_not HNo.out).2.1, (okDT_not HNo.out).2.2]
          exact ⟨_, rfl, World.ownsRow_nil _ _ _ _, B4.out⟩
      · have hkN : k = N := by omega
        subst hkN
        clear hb1
        have HRows := hide (show readZ zs (List.range k) = rowsDT zs from by unfold rowsDT; rw [HNum.out])
        rw [HRows.out] at HOw
        have HLen := hide (show (rowsDT zs).length = k * 24 from by rw [rowsDT_len, HNum.out])
        have HOk2 := hide (show okDT zs = (okTab (rowsDT zs) k && decide (k = tabN (rowsDT zs) k)) from by rw [HOk.out, HRk.out, Bool.true_and])
        go_wp2_with (go_at_call 7; fail)
        refine (specTab_any _ k (rowsDT zs) _ (RdT.own HOw.out)).mono ?_
        rintro e w5 ⟨v5, rfl, o5, b5⟩
        obtain ⟨a5, c5, rfl⟩ := ownT_shape o5
        have O5 := hide (own_below HOw.out b5)
        have B5 := hide (HB.out.trans (b5.mono HB.out.size))
        clear o5 b5 HOw HB
        cases hot : okTab (rowsDT zs) k with
        | false =>
          have HNo := hide (show okDT zs = false from by rw [HOk2.out, hot, Bool.false_and])
          rw [(codeTab_not hot).1]
          clear hot
          go_wp2
          go_ret2
          rw [(okDT_not HNo.out).1, (okDT_not HNo.out).2.1, (okDT_not HNo.out).2.2]
          exact ⟨_, rfl, World.ownsRow_nil _ _ _ _, B5.out⟩
        | true =>
          have hel := enc_num (rowsDT zs) k HLen.out hot
          rw [show codeTab (rowsDT zs) k = 0 from by unfold codeTab; rw [if_pos hot], hel]
          have HOt := hide hot
          clear hot
          by_cases hqq : tabN (rowsDT zs) k = k
          · have HYes := hide (show okDT zs = true from by rw [HOk2.out, HOt.out, Bool.true_and]; simpa using hqq.symm)
            rw [hqq]
            clear hqq hel
            go_wp2
            go_ret2
            rw [(okDT_yes HYes.out).1, (okDT_yes HYes.out).2.1, (okDT_yes HYes.out).2.2, HNum.out]
            exact ⟨_, rfl, O5.out, B5.out⟩
          · have HNo := hide (show okDT zs = false from by rw [HOk2.out, HOt.out, Bool.true_and]; simpa using fun h => hqq h.symm)
            have hne : ((tabN (rowsDT zs) k * 128 : Nat) : Int) ≠ ((k * 128 : Nat) : Int) := by omega
            have hnb : (((tabN (rowsDT zs) k * 128 : Nat) : Int) != ((k * 128 : Nat) : Int)) = true := by simpa using hne
            generalize tabN (rowsDT zs) k = T at hne hnb hqq ⊢
            have hnb2 : (((T : Int) * 128) != ((k : Int) * 128)) = true := by simp; omega
            go_wp2
            go_ret2
            rw [(okDT_not HNo.out).1, (okDT_not HNo.out).2.1, (okDT_not HNo.out).2.2]
            exact ⟨_, rfl, World.ownsRow_nil _ _ _ _, B5.out⟩
end Go.Proofs.YtlgafpjmifacmaaDoor
