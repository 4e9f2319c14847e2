/- DecodeInode of the model: what it tells; the law on DecodeInode, walked. The program's readTable: inodes read piece by piece. The program's DecodeTable, whole. The program's DecodeTable where the bytes tell inodes; both ways together. The model's DecodeTable; what both tell is the same. The laws' marks in a slice of inodes: markInodeS. The marks in a slice of inodes, looked at: heldInodeS. The law on DecodeTable, walked: it answers true and turns nothing that was there. -/
import Derived.Test.YtelcphnlkdffbaaDoorDinD
import Derived.Test.YtelcphnlkdffbaaDoorJtA
import Derived.Test.YtelcphnlkdffbaaDoorDinF
import Derived.Test.YtelcphnlkdffbaaDoorJtC
import Derived.Test.YtelcphnlkdffbaaDoorJtB
import Derived.Great.BuildSlice
import Derived.Great.FillDense
import Derived.Test.YtelcphnlkdffbaaDoorApart
namespace Go.Proofs.YtelcphnlkdffbaaDoor
set_option linter.unusedVariables false
set_option linter.unusedSimpArgs false
open Go.RowKit

theorem le_bd : ∀ (m n : Nat), ∀ z ∈ le m n, 0 ≤ z ∧ z < 256
  | 0, _, z, h => by cases h
  | m + 1, n, z, h => by
    rw [le, List.mem_cons] at h
    rcases h with rfl | h
    · omega
    · exact le_bd m _ z h
theorem rep_bd (n : Nat) : ∀ z ∈ List.replicate n (0 : Int), 0 ≤ z ∧ z < 256 := fun z h => by rw [(List.mem_replicate.1 h).2]; omega
theorem bytesR_bd (s : Int) (ds : List Int) (p q : Int) : ∀ z ∈ bytesR s ds p q, 0 ≤ z ∧ z < 256 := by
  intro z h
  unfold bytesR bytesW at h
  rw [List.mem_append] at h
  rcases h with h | h
  · exact le_bd _ _ z h
  · obtain ⟨v, _, hv⟩ := List.mem_flatMap.1 h
    exact le_bd _ _ z hv
theorem encI_bd (k0 k1 k2 k3 k4 k5 k6 k7 k8 s : Int) (ds : List Int) (p q : Int) : ∀ z ∈ encI k0 k1 k2 k3 k4 k5 k6 k7 k8 s ds p q, 0 ≤ z ∧ z < 256 := by
  intro z h
  unfold encI at h
  split at h
  · unfold bytesIno at h
    simp only [List.mem_append] at h
    rcases h with (((((((((((h | h) | h) | h) | h) | h) | h) | h) | h) | h) | h) | h) | h
    all_goals first | exact le_bd _ _ z h | exact rep_bd _ z h | exact bytesR_bd _ _ _ _ z h
  · cases h
theorem zero_rightR {s : Int} {ds : List Int} {p q : Int} (hd : ds.length = 12) (hs : s = 0) (hp : ∀ z ∈ ds ++ [p, q], z = 0) : rightR s ds p q = true := by
  obtain ⟨d0, d1, d2, d3, d4, d5, d6, d7, d8, d9, d10, d11, rfl⟩ := list12 hd
  simp only [List.cons_append, List.nil_append, List.forall_mem_cons] at hp
  obtain ⟨rfl, rfl, rfl, rfl, rfl, rfl, rfl, rfl, rfl, rfl, rfl, rfl, rfl, rfl, _⟩ := hp
  subst hs
  decide
theorem rightIno_root {k0 k1 k2 k3 k4 k5 k6 k7 k8 s : Int} {ds : List Int} {p q : Int} (hd : ds.length = 12) (h : rightIno k0 k1 k2 k3 k4 k5 k6 k7 k8 s ds p q = true) : rightR s ds p q = true := by
  unfold rightIno at h
  rw [Bool.or_eq_true] at h
  rcases h with h | h
  · rw [zeroB_iff] at h
    refine zero_rightR hd (h s (by simp [inoI, rootI])) (fun z hz => h z ?_)
    unfold inoI rootI
    exact List.mem_append_right _ (List.mem_cons_of_mem _ hz)
  · rw [Bool.and_eq_true] at h
    exact h.2
theorem eight_right (ts : List Int) (hX : unle ts < 18446744073709551616) (h : (((gval ts : Nat) : Int) : Int) < 281474976710656) : gval ts = unle ts := by
  rcases eight ts hX with ⟨_, e⟩ | ⟨_, h0, _, h1⟩
  · exact e
  · unfold gval at h ⊢
    split
    · rename_i hc
      rw [if_pos hc] at h
      exact absurd h (by decide)
    · rfl
theorem enc_gaps (zs : List Int) (h : ∀ z ∈ zs, 0 ≤ z ∧ z < 256) (hz : zs.length = 128) (hR : rightIno (zs.getD 0 0) ((gval ((zs.drop 2).take 2) : Nat) : Int) ((gval ((zs.drop 4).take 2) : Nat) : Int) ((gval ((zs.drop 6).take 2) : Nat) : Int) ((gval ((zs.drop 8).take 2) : Nat) : Int) ((gval ((zs.drop 12).take 4) : Nat) : Int) ((gval ((zs.drop 16).take 8) : Nat) : Int) ((gval ((zs.drop 24).take 8) : Nat) : Int) ((gval ((zs.drop 32).take 8) : Nat) : Int) ((gval (((zs.drop 40).take 64).take 8) : Nat) : Int) (gwords ((zs.drop 40).take 64) 12) ((gval ((((zs.drop 40).take 64).drop 56).take 4) : Nat) : Int) ((gval ((((zs.drop 40).take 64).drop 60).take 4) : Nat) : Int) = true) : decide (encI (zs.getD 0 0) ((gval ((zs.drop 2).take 2) : Nat) : Int) ((gval ((zs.drop 4).take 2) : Nat) : Int) ((gval ((zs.drop 6).take 2) : Nat) : Int) ((gval ((zs.drop 8).take 2) : Nat) : Int) ((gval ((zs.drop 12).take 4) : Nat) : Int) ((gval ((zs.drop 16).take 8) : Nat) : Int) ((gval ((zs.drop 24).take 8) : Nat) : Int) ((gval ((zs.drop 32).take 8) : Nat) : Int) ((gval (((zs.drop 40).take 64).take 8) : Nat) : Int) (gwords ((zs.drop 40).take 64) 12) ((gval ((((zs.drop 40).take 64).drop 56).take 4) : Nat) : Int) ((gval ((((zs.drop 40).take 64).drop 60).take 4) : Nat) : Int) = zs) = gapsZ zs := by
  have hzp : ((zs.drop 40).take 64).length = 64 := by simp; omega
  have hbp : ∀ z ∈ ((zs.drop 40).take 64), 0 ≤ z ∧ z < 256 := bytes_cut h 40 64
  have hroot := spec_bytes ((zs.drop 40).take 64) hbp hzp (rightIno_root (gwords_len _ 12) hR)
  obtain ⟨b0, b1, b2, b3, b4, b5, b6, b7, b8, bs, bp⟩ := ino_bd (gwords_len _ 12) hR
  have e6 := eight_right _ (unle8_lt zs h 16) b6.2
  have e7 := eight_right _ (unle8_lt zs h 24) b7.2
  have e8 := eight_right _ (unle8_lt zs h 32) b8.2
  have he : encI (zs.getD 0 0) ((gval ((zs.drop 2).take 2) : Nat) : Int) ((gval ((zs.drop 4).take 2) : Nat) : Int) ((gval ((zs.drop 6).take 2) : Nat) : Int) ((gval ((zs.drop 8).take 2) : Nat) : Int) ((gval ((zs.drop 12).take 4) : Nat) : Int) ((gval ((zs.drop 16).take 8) : Nat) : Int) ((gval ((zs.drop 24).take 8) : Nat) : Int) ((gval ((zs.drop 32).take 8) : Nat) : Int) ((gval (((zs.drop 40).take 64).take 8) : Nat) : Int) (gwords ((zs.drop 40).take 64) 12) ((gval ((((zs.drop 40).take 64).drop 56).take 4) : Nat) : Int) ((gval ((((zs.drop 40).take 64).drop 60).take 4) : Nat) : Int) = bytesIno (zs.getD 0 0).toNat ((gval ((zs.drop 2).take 2) : Nat) : Int).toNat ((gval ((zs.drop 4).take 2) : Nat) : Int).toNat ((gval ((zs.drop 6).take 2) : Nat) : Int).toNat ((gval ((zs.drop 8).take 2) : Nat) : Int).toNat ((gval ((zs.drop 12).take 4) : Nat) : Int).toNat ((gval ((zs.drop 16).take 8) : Nat) : Int).toNat ((gval ((zs.drop 24).take 8) : Nat) : Int).toNat ((gval ((zs.drop 32).take 8) : Nat) : Int).toNat ((gval (((zs.drop 40).take 64).take 8) : Nat) : Int) (gwords ((zs.drop 40).take 64) 12) ((gval ((((zs.drop 40).take 64).drop 56).take 4) : Nat) : Int) ((gval ((((zs.drop 40).take 64).drop 60).take 4) : Nat) : Int) := by
    unfold encI
    rw [if_pos hR]
  cases hg : gapsZ zs with
  | true =>
    have hw := bytes_whole zs h hz hg _ _ _ _ hroot
    rw [decide_eq_true_eq, he, kind_one zs h hz]
    simp only [Int.toNat_natCast]
    rw [gval_few zs h 2 2 (by omega), gval_few zs h 4 2 (by omega), gval_few zs h 6 2 (by omega), gval_few zs h 8 2 (by omega), gval_few zs h 12 4 (by omega), e6, e7, e8]
    exact hw
  | false =>
    rw [decide_eq_false_iff_not]
    intro hn
    rw [he] at hn
    have := gaps_bytes (zs.getD 0 0).toNat ((gval ((zs.drop 2).take 2) : Nat) : Int).toNat ((gval ((zs.drop 4).take 2) : Nat) : Int).toNat ((gval ((zs.drop 6).take 2) : Nat) : Int).toNat ((gval ((zs.drop 8).take 2) : Nat) : Int).toNat ((gval ((zs.drop 12).take 4) : Nat) : Int).toNat ((gval ((zs.drop 16).take 8) : Nat) : Int).toNat ((gval ((zs.drop 24).take 8) : Nat) : Int).toNat ((gval ((zs.drop 32).take 8) : Nat) : Int).toNat ((gval (((zs.drop 40).take 64).take 8) : Nat) : Int) (gwords ((zs.drop 40).take 64) 12) ((gval ((((zs.drop 40).take 64).drop 56).take 4) : Nat) : Int) ((gval ((((zs.drop 40).take 64).drop 60).take 4) : Nat) : Int) (gwords_len _ 12)
    rw [hn, hg] at this
    cases this

theorem specDI_any (v : Value) (zs : List Int) (w : World) (h : Rd .u8 w v zs) (hbd : ∀ z ∈ zs, 0 ≤ z ∧ z < 256) :
    Calls Tryd.prog 33 #[v] w fun e w' => e = .returned (.tuple #[.agg (cellsI (decI zs)), .int .i64 (codeDI zs)]) ∧ Below w.heap.size w w' := by
  by_cases hz : zs.length = 128
  · obtain ⟨d0, d1, d2, d3, d4, d5, d6, d7, d8, d9, d10, d11, ed⟩ := list12 (gwords_len ((zs.drop 40).take 64) 12)
    have hok : okDI zs = (rightIno (zs.getD 0 0) ((gval ((zs.drop 2).take 2) : Nat) : Int) ((gval ((zs.drop 4).take 2) : Nat) : Int) ((gval ((zs.drop 6).take 2) : Nat) : Int) ((gval ((zs.drop 8).take 2) : Nat) : Int) ((gval ((zs.drop 12).take 4) : Nat) : Int) ((gval ((zs.drop 16).take 8) : Nat) : Int) ((gval ((zs.drop 24).take 8) : Nat) : Int) ((gval ((zs.drop 32).take 8) : Nat) : Int) ((gval (((zs.drop 40).take 64).take 8) : Nat) : Int) (gwords ((zs.drop 40).take 64) 12) ((gval ((((zs.drop 40).take 64).drop 56).take 4) : Nat) : Int) ((gval ((((zs.drop 40).take 64).drop 60).take 4) : Nat) : Int) && decide (encI (zs.getD 0 0) ((gval ((zs.drop 2).take 2) : Nat) : Int) ((gval ((zs.drop 4).take 2) : Nat) : Int) ((gval ((zs.drop 6).take 2) : Nat) : Int) ((gval ((zs.drop 8).take 2) : Nat) : Int) ((gval ((zs.drop 12).take 4) : Nat) : Int) ((gval ((zs.drop 16).take 8) : Nat) : Int) ((gval ((zs.drop 24).take 8) : Nat) : Int) ((gval ((zs.drop 32).take 8) : Nat) : Int) ((gval (((zs.drop 40).take 64).take 8) : Nat) : Int) (gwords ((zs.drop 40).take 64) 12) ((gval ((((zs.drop 40).take 64).drop 56).take 4) : Nat) : Int) ((gval ((((zs.drop 40).take 64).drop 60).take 4) : Nat) : Int) = zs)) := by
      unfold okDI
      rw [decide_eq_true hz, Bool.true_and]
      cases hR : rightIno (zs.getD 0 0) ((gval ((zs.drop 2).take 2) : Nat) : Int) ((gval ((zs.drop 4).take 2) : Nat) : Int) ((gval ((zs.drop 6).take 2) : Nat) : Int) ((gval ((zs.drop 8).take 2) : Nat) : Int) ((gval ((zs.drop 12).take 4) : Nat) : Int) ((gval ((zs.drop 16).take 8) : Nat) : Int) ((gval ((zs.drop 24).take 8) : Nat) : Int) ((gval ((zs.drop 32).take 8) : Nat) : Int) ((gval (((zs.drop 40).take 64).take 8) : Nat) : Int) (gwords ((zs.drop 40).take 64) 12) ((gval ((((zs.drop 40).take 64).drop 56).take 4) : Nat) : Int) ((gval ((((zs.drop 40).take 64).drop 60).take 4) : Nat) : Int) with
      | false => rfl
      | true => rw [enc_gaps zs hbd hz hR]
    have hC := specDI_128 v zs w h hbd hz _ _ _ _ _ _ _ _ _ _ _ _ d0 d1 d2 d3 d4 d5 d6 d7 d8 d9 d10 d11 rfl rfl rfl rfl rfl rfl rfl rfl rfl rfl ed rfl rfl (encI_bd _ _ _ _ _ _ _ _ _ _ _ _ _) _ _ rfl rfl
    rw [← ed] at hC
    rw [← hok] at hC
    exact hC
  · have hC := specDI_bad v zs w h hz
    have e : okDI zs = false := by unfold okDI; rw [decide_eq_false hz, Bool.false_and]
    unfold decI codeDI
    rw [e]
    exact hC
end Go.Proofs.YtelcphnlkdffbaaDoor

namespace Go.Proofs.YtelcphnlkdffbaaDoor
set_option linter.unusedVariables false
set_option linter.unusedSimpArgs false
open Go.RowKit Go.Shelf
attribute [local go_sem] Oper.semAt_some

/-- Piece k of the bytes. -/
def pieceB (zs : List Int) (c k : Nat) : List Int := (zs.drop (k * c)).take c
theorem pieceB_len (zs : List Int) (c k : Nat) : (pieceB zs c k).length = min c (zs.length - k * c) := by simp [pieceB]
theorem pieceB_bd {zs : List Int} (h : ∀ z ∈ zs, 0 ≤ z ∧ z < 256) (c k : Nat) : ∀ z ∈ pieceB zs c k, 0 ≤ z ∧ z < 256 := fun z hz => h z (List.mem_of_mem_drop (List.mem_of_mem_take hz))
theorem Rd.piece {w : World} {b off c k : Nat} {zs : List Int} (hb : b < w.heap.size) (hc : c ≤ 1000) (hcell : ∀ i, i < zs.length → w.cell? ⟨b, off + i, none⟩ = some (.int .u8 (zs.getD i 0))) : Rd .u8 w (pieceV b off zs.length c k) (pieceB zs c k) := by
  have hl := pieceB_len zs c k
  refine ⟨_, _, by rw [hl]; rfl, by rw [hl]; unfold maxLen; omega, fun _ => ⟨b, off + k * c, rfl, hb, fun i hi => ?_⟩, by rw [hl]; exact Nat.le_refl _, by unfold maxLen; omega⟩
  rw [hl] at hi
  rw [Nat.add_assoc, hcell (k * c + i) (by omega)]
  simp [pieceB, List.getD, show i < c by omega]
/-- The integers of the inodes that the pieces ks tell, and whether all are right. -/
def readZ (zs : List Int) (ks : List Nat) : List Int := (ks.map fun k => decI (pieceB zs 128 k)).flatten
def readOk (zs : List Int) (ks : List Nat) : Bool := ks.all fun k => codeDI (pieceB zs 128 k) == 0
theorem decI_len (zs : List Int) : (decI zs).length = 24 := by
  obtain ⟨k0, k1, k2, k3, k4, k5, k6, k7, k8, s, ds, p, q, hd, e⟩ := decI_ino zs
  rw [e]; exact inoI_len _ _ _ _ _ rfl hd
theorem readZ_len (zs : List Int) : ∀ ks, (readZ zs ks).length = ks.length * 24
  | [] => rfl
  | k :: ks => by
    have ih := readZ_len zs ks
    unfold readZ at ih ⊢
    rw [List.map_cons, List.flatten_cons, List.length_append, decI_len, ih, List.length_cons]
    omega
theorem readZ_snoc (zs : List Int) (ks : List Nat) (k : Nat) : readZ zs (ks ++ [k]) = readZ zs ks ++ decI (pieceB zs 128 k) := by
  unfold readZ; simp
theorem readOk_snoc (zs : List Int) (ks : List Nat) (k : Nat) : readOk zs (ks ++ [k]) = (readOk zs ks && (codeDI (pieceB zs 128 k) == 0)) := by
  unfold readOk; simp

/-- Kept behind what leaves every cell of a chain as it is. -/
theorem Ck.keepC {w w' : World} {b lo : Nat} {code : Int} {ok : Bool} (h : Ck w b lo code ok) (hb : w'.heap[b]? = w.heap[b]?) (hk : ∀ k o v, lo ≤ k → w.cell? ⟨k, o, none⟩ = some v → w'.cell? ⟨k, o, none⟩ = some v) : Ck w' b lo code ok := by
  obtain ⟨h1, h2, ev, h3, h4⟩ := h
  refine ⟨(World.cell?_of_block (a := ⟨b, 0, none⟩) hb).trans h1, (World.frozen?_of_block (a := ⟨b, 1, none⟩) hb).trans h2, ev, (World.cell?_of_block (a := ⟨b, 1, none⟩) hb).trans h3, ?_⟩
  rcases h4 with h4 | ⟨h4, n, h5⟩
  · exact .inl h4
  · exact .inr ⟨h4, n, h5.keep hk⟩
theorem boxT_below {W W' : World} {B D : Nat} {t : TypeId} {v : Value} (h : Boxed W B t v) (hb : Below D W W') (hB : B < D) : Boxed W' B t v := (hb.block B hB).trans h
theorem boxT_tch {W W' : World} {B b : Nat} {t : TypeId} {v : Value} (h : Boxed W B t v) (hb : Tch b W W') (hB : B ≠ b) : Boxed W' B t v := (hb.1.block B h.lt (by simp; omega)).trans h
theorem cells_new (w : World) (r : List Int) (t : TypeId) : ∀ j u, (r.map (Value.int .i64))[j]? = some u → (w.alloc (.cells (cellsI r) t)).cell? ((⟨w.heap.size, 0, none⟩ : Addr).add j) = some u := by
  intro j u hj
  rw [Addr.add_mid, (Blk.new w (cellsI r) t).cell (0 + j), Nat.zero_add]
  simpa [cellsI] using hj
theorem ownT_shape {w : World} {base : Nat} {e : TypeId} {v : Value} {n sz : Nat} {xs : List Value} (h : w.ownsRow base e sz v n xs) : ∃ a cap, v = .slice a n cap := by
  rcases h.2 with ⟨rfl, rfl⟩ | ⟨g, cap, _, rfl, _⟩
  · exact ⟨_, _, rfl⟩
  · exact ⟨_, _, rfl⟩
theorem FaultIs.putObj {W : World} {lo : Nat} {ok : Bool} {ev : Value} {code : Int} {D : Nat} {o o' : Obj} (h : FaultIs W lo ok ev code) (hD : W.heap[D]? = some o) (ho : o.isCells = false) : FaultIs (W.drew.putObj D o') lo ok ev code := by
  rcases h with h | ⟨h, m, h2⟩
  · exact .inl h
  · refine .inr ⟨h, m, h2.keep fun k q v hk hc => ?_⟩
    have hne : k ≠ D := by
      intro e
      subst e
      unfold World.cell? at hc
      rw [hD] at hc
      cases o <;> simp_all [Obj.isCells]
    exact (World.cell?_of_block (a := ⟨k, q, none⟩) (show (W.drew.putObj D o').heap[k]? = W.heap[k]? from World.putObj_heap_other hne)).trans hc
/-- Between two rounds: the inodes that were read, the check, the boxes that the iterator reads. -/
structure Itb (zs : List Int) (w : World) (g lb : Nat) (sv : Value) (pre : List Nat) (W : World) : Prop where
  row : ∃ v, Boxed W lb 27 v ∧ W.ownsRow (w.heap.size + 1) 44 24 v pre.length ((readZ zs pre).map (Value.int .i64)) ∧ (v = .slice (some ⟨g, 0, none⟩) pre.length (zs.length / 128) ∨ zs.length / 128 < pre.length)
  ck : Ck W w.heap.size (lb + 3) 21 (readOk zs pre)
  bx1 : Boxed W (lb + 1) 24 sv
  bx2 : Boxed W (lb + 2) 3 (.int .i64 ((128 : Nat) : Int))
  old : Below w.heap.size w W
  size : lb + 3 ≤ W.heap.size
theorem Itb.own {zs : List Int} {w : World} {g lb : Nat} {sv : Value} (hl : w.heap.size + 1 ≤ lb) : OwnFrom (lb + 3) (Itb zs w g lb sv) := by
  intro pre X Y row hs hg hr
  have hb : ∀ {B : Nat} {t : TypeId} {v : Value}, B < lb + 3 → Boxed X B t v → Boxed Y B t v := fun hB h => h.kept hg (fun e => by have := (hr _ e.symm).1; omega)
  obtain ⟨v, hv, hrow, hsh⟩ := hs.row
  refine ⟨⟨v, hb (by omega) hv, hrow.kept hg ?_, hsh⟩, hs.ck.keepC (hg.block _ (by have := hs.ck.lt; omega) (fun e => by have := (hr _ e.symm).1; omega)) ?_, hb (by omega) hs.bx1, hb (by omega) hs.bx2, ?_, Nat.le_trans hs.size hg.size⟩
  · rcases hrow.2 with ⟨rfl, _⟩ | ⟨g, cap, cur, rfl, _, hgb, _⟩
    · exact .inl rfl
    · refine .inr fun e' => ?_
      obtain ⟨_, o, ho, hc⟩ := hr g (by simpa [Value.ownBlock] using e'.symm)
      rw [hgb] at ho; cases ho; cases hc
  · intro k o v hk hc
    have hlt := cell_lt hc
    refine (World.cell?_of_block (a := ⟨k, o, none⟩) (hg.block k hlt (fun e => ?_))).trans hc
    obtain ⟨_, ob, ho, hcc⟩ := hr k e.symm
    unfold World.cell? at hc
    rw [ho] at hc
    cases ob <;> simp_all [Obj.isCells]
  · exact hs.old.grown hg hs.old.size (fun k e => by have := (hr k e).1; omega)

theorem Itb.next {zs : List Int} {w : World} {g lb : Nat} {sv : Value} {pre : List Nat} {x : Nat} {W w4 w5 w6 : World} {v v' : Value} {ok : Bool} (hI : Itb zs w g lb sv pre W) (hg1 : w.heap.size + 1 ≤ g) (hg2 : g < lb) (hB4 : Below W.heap.size W w4)
    (hc5 : Ck w5 w.heap.size (lb + 3) 21 ok) (ht5 : Tch w.heap.size w4 w5) (hk : ok = readOk zs (pre ++ [x])) (hV : Boxed w5 lb 27 v) (tmp : Obj) (hg6 : (w5.alloc tmp).grownBy w6 (some g))
    (o6 : w6.ownsRow (w.heap.size + 1) 44 24 v' (pre ++ [x]).length ((readZ zs (pre ++ [x])).map (Value.int .i64))) (hne : some lb ≠ v'.ownBlock) (hsh : v' = .slice (some ⟨g, 0, none⟩) (pre ++ [x]).length (zs.length / 128) ∨ zs.length / 128 < (pre ++ [x]).length) :
    KeepsFrom (lb + 3) W (w6.setCell ⟨lb, 0, none⟩ v') ∧ Kc w.heap.size (lb + 1) (lb + 2) W (w6.setCell ⟨lb, 0, none⟩ v') ∧ Itb zs w g lb sv (pre ++ [x]) (w6.setCell ⟨lb, 0, none⟩ v') := by
  have h1 := hI.size
  have h4 := hB4.size
  have h5 := ht5.1.size
  have h6 := hg6.size
  rw [World.size_alloc] at h6
  have hY : (w6.setCell ⟨lb, 0, none⟩ v').heap.size = w6.heap.size := by simp
  have hblk : ∀ k, k < W.heap.size → k ≠ w.heap.size → k ≠ lb → k ≠ g → (w6.setCell ⟨lb, 0, none⟩ v').heap[k]? = W.heap[k]? := by
    intro k hk1 hk2 hk3 hk4
    rw [Below.heap_setCell w6 ⟨lb, 0, none⟩ v' k (fun h => hk3 h), hg6.block k (by rw [World.size_alloc]; omega) (by simp; omega), Below.heap_alloc w5 tmp k (by omega), ht5.1.block k (by omega) (by simp; omega), hB4.block k hk1]
  have hBw : ∀ {U : World}, Below w.heap.size U W → Below w.heap.size U (w6.setCell ⟨lb, 0, none⟩ v') := fun {U} h =>
    ((((h.trans (hB4.mono (by omega))).grown ht5.1 (by omega) (fun k e => by cases e; omega)).alloc (by omega) tmp).grown hg6 (by rw [World.size_alloc]; omega) (fun k e => by cases e; omega)).setCell (p := ⟨lb, 0, none⟩) (by show w.heap.size ≤ lb; omega) v'
  have V6 := (hV.alloc tmp).kept hg6 (by simp; omega)
  refine ⟨⟨by omega, fun k o hB hk' ho => (hblk k (Array.getElem?_eq_some_iff.1 hk').1 (by omega) (by omega) (by omega)).trans hk'⟩, ⟨hBw (Below.refl _ _), hblk _ (by omega) (by omega) (by omega) (by omega), hblk _ (by omega) (by omega) (by omega) (by omega)⟩, ?_⟩
  refine ⟨⟨v', V6.set v', o6.kept (grownBy_setCell' w6 lb v') (.inr (fun e => hne e.symm)), hsh⟩, ?_, (hblk _ (by omega) (by omega) (by omega) (by omega)).trans hI.bx1, (hblk _ (by omega) (by omega) (by omega) (by omega)).trans hI.bx2, hBw hI.old, by omega⟩
  rw [← hk]
  have c6 := (hc5.below ((Below.refl _ _).alloc (Nat.le_refl _) tmp)).grown hg6 (by omega) (by omega)
  exact c6.grown (grownBy_setCell' w6 lb v') (by omega) (by omega)

set_option maxRecDepth 100000 in
set_option maxHeartbeats 2000000 in
theorem readTable_big (v : Value) (zs : List Int) (w : World) (h : Rd .u8 w v zs) (hbd : ∀ z ∈ zs, 0 ≤ z ∧ z < 256) (hz : zs.length ≤ 140737488355328) (hg : ErrT w) (hlen : ¬ zs.length ≤ 128128) :
    Calls Tryd.prog 34 #[v] w fun e w' => ∃ ev, e = .returned (.tuple #[.slice none 0 0, ev]) ∧ (∃ m, Flt w' w.heap.size m ev 21) ∧ Below w.heap.size w w' := by
  have hm := h.len
  unfold maxLen at hm
  have HG := hide (And.intro h (And.intro hbd hg))
  obtain ⟨a, cap, rfl, hshape⟩ := h
  have hcap := hshape.2.2
  have ha := hshape.2.1
  obtain ⟨i0, hi, hz0, hz1, hz2⟩ := info_parts infoT24
  have K0 := hide (And.intro (Ck.fresh w 21 64) ((Below.refl w.heap.size w).alloc (Nat.le_refl _) (.cells #[.int .i64 21, .nilIface] 64)))
  clear hshape hg hbd
  refine (callsIn_wide (n := 6)).1 ?_
  refine callsIn_of_wp_marks Tryd.func34 rfl trivial ?_ rfl
  simp only [Tryd.ntmps34, List.size_toArray, List.length_cons, List.length_nil, Nat.reduceAdd, Nat.reduceSub, Array.replicate_succ, Array.replicate_zero, List.push_toArray, List.append_toArray, List.nil_append, List.cons_append]
  have HA := hide ha
  clear ha
  gi_wp2_with (refine ⟨trivial, ?_⟩; gi_at_call 36; fail)
  refine ⟨trivial, ?_⟩
  refine (callsIn_wide.2 (need_any w.heap.size (w.heap.size + 1) _ 21 true _ _ K0.out.1 (by omega) (by simp))).mono ?_
  rintro e w1 ⟨rfl, hc1, ht1⟩
  rw [Bool.true_and] at hc1
  have K1 := hide (And.intro hc1 (show Below w.heap.size w w1 from K0.out.2.grown ht1.1 (by simp) (fun k e => by cases e; omega)))
  have hs1 : w.heap.size + 1 ≤ w1.heap.size := by have := ht1.1.size; simp at this; omega
  clear hc1 ht1 K0
  obtain ⟨e1, c1, hf1⟩ := K1.out.1.fault
  have hd : decide ((zs.length : Int) ≤ 128128) = false := by simp; omega
  rw [hd] at hf1 K1
  rcases hf1 with ⟨hf1, _⟩ | ⟨_, m, hf1⟩
  · cases hf1
  obtain ⟨t', x', rfl⟩ := hf1.iface
  have HF := hide hf1
  clear hf1
  have hmx : Tryd.prog.follows .mixedOrders = true := by kernel_rfl
  gi_wp2
  gi_region_o
  gi_wp2
  exact ⟨_, results_tmp2 rfl _ _ _, _, rfl, ⟨m, Flt.mono (lo' := w.heap.size) (by omega) (HF.out.below ((Below.refl _ _).drew))⟩, K1.out.2.drew⟩

set_option maxRecDepth 100000 in
set_option maxHeartbeats 2000000 in
theorem readTable_ok (v : Value) (zs : List Int) (w : World) (h : Rd .u8 w v zs) (hbd : ∀ z ∈ zs, 0 ≤ z ∧ z < 256) (hz : zs.length ≤ 140737488355328) (hg : ErrT w) (hlen : zs.length ≤ 128128) :
    Calls Tryd.prog 34 #[v] w fun e w' => ∃ v' ev, e = .returned (.tuple #[v', ev]) ∧ FaultIs w' w.heap.size (readOk zs (List.range (pcs zs.length 128))) ev 21 ∧
      w'.ownsRow w.heap.size 44 24 v' (pcs zs.length 128) ((readZ zs (List.range (pcs zs.length 128))).map (Value.int .i64)) ∧ Below w.heap.size w w' := by
  have hm := h.len
  unfold maxLen at hm
  have HG := hide (And.intro h (And.intro hbd hg))
  obtain ⟨a, cap, rfl, hshape⟩ := h
  have hcap := hshape.2.2
  have ha := hshape.2.1
  obtain ⟨i0, hi, hz0, hz1, hz2⟩ := info_parts infoT24
  have K0 := hide (And.intro (Ck.fresh w 21 64) ((Below.refl w.heap.size w).alloc (Nat.le_refl _) (.cells #[.int .i64 21, .nilIface] 64)))
  clear hshape hg hbd
  refine (callsIn_wide (n := 6)).1 ?_
  refine callsIn_of_wp_marks Tryd.func34 rfl trivial ?_ rfl
  simp only [Tryd.ntmps34, List.size_toArray, List.length_cons, List.length_nil, Nat.reduceAdd, Nat.reduceSub, Array.replicate_succ, Array.replicate_zero, List.push_toArray, List.append_toArray, List.nil_append, List.cons_append]
  have HA := hide ha
  clear ha
  gi_wp2_with (refine ⟨trivial, ?_⟩; gi_at_call 36; fail)
  refine ⟨trivial, ?_⟩
  refine (callsIn_wide.2 (need_any w.heap.size (w.heap.size + 1) _ 21 true _ _ K0.out.1 (by omega) (by simp))).mono ?_
  rintro e w1 ⟨rfl, hc1, ht1⟩
  rw [Bool.true_and] at hc1
  have K1 := hide (And.intro hc1 (show Below w.heap.size w w1 from K0.out.2.grown ht1.1 (by simp) (fun k e => by cases e; omega)))
  have hs1 : w.heap.size + 1 ≤ w1.heap.size := by have := ht1.1.size; simp at this; omega
  clear hc1 ht1 K0
  obtain ⟨e1, c1, hf1⟩ := K1.out.1.fault
  have hd : decide ((zs.length : Int) ≤ 128128) = true := by simp; omega
  rw [hd] at hf1 K1
  rcases hf1 with ⟨_, rfl⟩ | ⟨hf1, _⟩
  case inr => cases hf1
  gi_wp2_with (first | (refine wpListIn_make_own _ rfl _ _ 27 rfl (w.heap.size + 1) 44 i0 (.agg (cellsI (List.replicate 24 0))) 24 Tryd.underlying27 hi hz0 hz1 .i64 .i64 _ (zs.length / 128) rfl rfl (by go_num) (by rw [hz2]; omega) (by unfold maxLen; omega) hs1 ?_; intro w2 o2 g2; have O2 := hide o2; have G2 := hide g2; clear o2 g2) | (refine ⟨trivial, ?_⟩; gi_at_call 62; fail))
  refine ⟨trivial, ?_⟩
  refine (chunk_in _ 128 (by omega) (by omega) _ a zs.length cap).mono ?_
  rintro e w' ⟨rfl, rfl⟩
  gi_wp2
  have hs2 := G2.out.size
  have hgl : w1.heap.size < w2.heap.size := (O2.out.lt _ rfl).2
  obtain ⟨W1, hW1⟩ : ∃ W1, W1 = (((w2.alloc (.cells #[.slice (some ⟨w1.heap.size, 0, none⟩) 0 (zs.length / 128)] 27)).alloc (.cells #[.slice a zs.length cap] 24)).alloc (.cells #[.int .i64 ((128 : Nat) : Int)] 3)) := ⟨_, rfl⟩
  have hsz : W1.heap.size = w2.heap.size + 3 := by rw [hW1]; simp
  have bL : Boxed W1 w2.heap.size 27 (.slice (some ⟨w1.heap.size, 0, none⟩) 0 (zs.length / 128)) := by rw [hW1]; exact ((Boxed.new w2 _ _).alloc _).alloc _
  have bX1 : Boxed W1 (w2.heap.size + 1) 24 (.slice a zs.length cap) := by
    have h := Boxed.new (w2.alloc (.cells #[.slice (some ⟨w1.heap.size, 0, none⟩) 0 (zs.length / 128)] 27)) 24 (.slice a zs.length cap)
    rw [World.size_alloc] at h
    rw [hW1]; exact h.alloc _
  have bX2 : Boxed W1 (w2.heap.size + 2) 3 (.int .i64 ((128 : Nat) : Int)) := by
    have h := Boxed.new ((w2.alloc (.cells #[.slice (some ⟨w1.heap.size, 0, none⟩) 0 (zs.length / 128)] 27)).alloc (.cells #[.slice a zs.length cap] 24)) 3 (.int .i64 ((128 : Nat) : Int))
    rw [World.size_alloc, World.size_alloc] at h
    rw [hW1]; exact h
  have hB12 : Below w1.heap.size w1 w2 := (Below.refl _ _).grown G2.out (Nat.le_refl _) (fun k h => by cases h)
  have hB2 : Below w2.heap.size w2 W1 := by
    rw [hW1]
    exact ((((Below.refl w2.heap.size w2).alloc (Nat.le_refl _) _).alloc (by simp) _).alloc (by simp; omega) _)
  have hOld : Below w.heap.size w W1 := (K1.out.2.trans (hB12.mono (by omega))).trans (hB2.mono (by omega))
  have hCk : Ck W1 w.heap.size (w2.heap.size + 3) 21 true := ((K1.out.1.below hB12).below hB2).relo
  have hRow := own_below O2.out hB2
  clear c1
  have hI0 : Itb zs w w1.heap.size w2.heap.size (.slice a zs.length cap) [] W1 :=
    ⟨⟨_, bL, by simpa [readZ] using hRow, .inl rfl⟩, hCk, bX1, bX2, hOld, by omega⟩
  rw [show (((w2.alloc (.cells #[.slice (some ⟨w1.heap.size, 0, none⟩) 0 (zs.length / 128)] 27)).alloc (.cells #[.slice a zs.length cap] 24)).alloc (.cells #[.int .i64 128] 3)) = W1 from hW1.symm]
  clear hW1 hRow hCk hB12 hB2 O2 G2
  have hmx : Tryd.prog.follows .mixedOrders = true := by kernel_rfl
  obtain ⟨b, off, hab⟩ : ∃ b off, 0 < zs.length → a = some ⟨b, off, none⟩ ∧ b < w.heap.size ∧ ∀ i, i < zs.length → w.cell? ⟨b, off + i, none⟩ = some (.int .u8 (zs.getD i 0)) := by
    rcases Nat.eq_zero_or_pos zs.length with h | h
    · exact ⟨0, 0, fun h2 => by omega⟩
    · obtain ⟨b, off, e, h1, h2⟩ := HA.out (fun e => by rw [e] at h; simp at h)
      exact ⟨b, off, fun _ => ⟨e, h1, h2⟩⟩
  refine wpIn_rangeFunc_ownG rfl (by omega) (gf := 85) (lb := #[.pointer (some ⟨w2.heap.size + 1, 0, none⟩), .pointer (some ⟨w2.heap.size + 2, 0, none⟩)]) rfl trivial (enters_of Tryd.func85 (by kernel_rfl) rfl)
    (chunk_stops 5 (by omega) (w2.heap.size + 1) (w2.heap.size + 2) w.heap.size zs.length 128 a cap (by omega) (by omega) hz hcap.1 hcap.2 b off (fun h => (hab h).1) W1 bX1 bX2) Kc.trans (Kc_b (by omega) (by omega) (by omega)) (Below.refl _ _) (fun _ => rfl)
    (Itb zs w w1.heap.size w2.heap.size (.slice a zs.length cap))
    (fun cd pre W => False)
    (by rw [hsz]; exact Itb.own (by omega))
    (by intro cd s W W' row h; cases h)
    hI0
    (fun x => { tmps := #[.slice a zs.length cap, undef, .slice none 0 0, .nilIface, .pointer (some ⟨w.heap.size, 0, none⟩), .pointer (some ⟨w2.heap.size, 0, none⟩), pieceV b off zs.length 128 x, undef, undef, .agg #[.int .i64 21, .nilIface], .slice a zs.length cap, .int .i64 (zs.length : Int), .bool true, .tuple #[], .pointer (some ⟨w.heap.size, 1, none⟩), .nilIface, .bool false, undef, undef, .slice a zs.length cap, .int .i64 (zs.length : Int), .int .i64 ((zs.length : Int) / 128), .slice (some ⟨w1.heap.size, 0, none⟩) 0 (zs.length / 128), .slice a zs.length cap, .func (.func 85) #[] #[.pointer (some ⟨w2.heap.size + 1, 0, none⟩), .pointer (some ⟨w2.heap.size + 1 + 1, 0, none⟩)], pieceV b off zs.length 128 x, undef, undef, undef, undef, undef, undef, undef, undef, undef, undef, undef, undef, undef, undef, undef], defers := [] }) ?assign ?body ?done ?stop
  case assign =>
    intro l x W K hK
    gi_wp2
    exact hK
  case body =>
    rintro l pre x W hI hlt
    have hpl := pieceB_len zs 128 x
    have HRd := hide (show Rd .u8 W (pieceV b off zs.length 128 x) (pieceB zs 128 x) from by
      rcases Nat.eq_zero_or_pos zs.length with h | h
      · have e0 : pieceB zs 128 x = [] := List.eq_nil_of_length_eq_zero (by omega)
        rw [e0]
        exact ⟨some ⟨b, off + x * 128, none⟩, min 128 (zs.length - x * 128), by simp [pieceV, h], by simp, fun h => absurd rfl h, by simp, by unfold maxLen; omega⟩
      · obtain ⟨_, hbw, hcl⟩ := hab h
        exact Rd.piece (Nat.lt_of_lt_of_le hbw hI.old.size) (by omega) (fun i hi => (hI.old.cell (p := ⟨b, off + i, none⟩) hbw).trans (hcl i hi)))
    have HBd := hide (pieceB_bd HG.out.2.1 128 x)
    have HI := hide hI
    generalize hP : pieceB zs 128 x = ps at *
    obtain ⟨sA, sL, sC, hsv⟩ : ∃ sA sL sC, pieceV b off zs.length 128 x = .slice sA sL sC := ⟨_, _, _, rfl⟩
    have hps : ps.length ≤ 128 := by omega
    rw [hsv] at HRd ⊢
    clear hI hsv
    gi_wp2_with (first | (refine ⟨trivial, ?_⟩; gi_at_call 63; fail))
    refine ⟨trivial, ?_⟩
    refine (CallsIn.inRound l (callsIn_wide.2 (implDI_same _ ps _ HRd.out HBd.out (by omega) (HG.out.2.2.below HI.out.old)))).mono ?_
    rintro e w3 ⟨rfl, b3⟩
    have HN := hide (decI_len ps)
    have HSn := hide (readZ_snoc zs pre x)
    have HSk := hide (readOk_snoc zs pre x)
    rw [hP] at HSn HSk
    generalize decI ps = r at HN HSn ⊢
    generalize codeDI ps = cd at HSk ⊢
    have HZ := hide (show (cellsI r).size = 24 from by rw [cellsI_size]; exact HN.out)
    have HK := hide (show Blk (w3.alloc (.cells (cellsI (List.replicate 24 0)) 44)) w3.heap.size (cellsI (List.replicate 24 0)) 44 ∧ Below w3.heap.size w3 (w3.alloc (.cells (cellsI (List.replicate 24 0)) 44)) from ⟨Blk.new _ _ _, (Below.refl _ _).alloc (Nat.le_refl _) _⟩)
    have B3 := hide b3
    clear b3 HRd HBd
    gi_wp2_with (first | (refine wpListIn_store_new w3.heap.size w3 rfl 44 _ _ rfl w3.heap.size (cellsI r) rfl rfl 44 (cellsI (List.replicate 24 0)) HK.out.1 (by rw [HZ.out]; exact info24) (by rw [HZ.out]; rfl) (cellsI_one _) HK.out.2 (Nat.le_refl _) ?_; intro w4 k4 b4; have K4 := hide k4; have B4 := hide b4; clear k4 b4) | (refine ⟨trivial, ?_⟩; gi_at_call 36; fail))
    refine ⟨trivial, ?_⟩
    have hsW := HI.out.size
    have hs3 := B3.out.size
    have hs4 := B4.out.size
    have hk4 := K4.out.lt
    have hsO := HI.out.old.size
    have HB4 := hide (B3.out.trans (B4.out.mono B3.out.size))
    refine (CallsIn.inRound l (callsIn_wide.2 (need_any w.heap.size (w2.heap.size + 3) _ 21 _ (cd == 0) _ (HI.out.ck.below HB4.out) (by omega) (by omega)))).mono ?_
    rintro e w5 ⟨rfl, hc5, ht5⟩
    have hs5 := ht5.1.size
    obtain ⟨v, hv, hrow, hsh⟩ := HI.out.row
    have hpre : v = .slice (some ⟨w1.heap.size, 0, none⟩) pre.length (zs.length / 128) ∧ pre.length ≤ zs.length / 128 := by
      have hp2 : pcs zs.length 128 ≤ zs.length / 128 + 1 := by unfold pcs; omega
      rcases hsh with h | h
      · exact ⟨h, by omega⟩
      · omega
    obtain ⟨rfl, hpl2⟩ := hpre
    have V5 := hide (boxT_tch (boxT_below hv HB4.out (by omega)) ht5 (by omega))
    have R5 := hide ((own_below hrow HB4.out).kept ht5.1 (.inr (by simp [Value.ownBlock]; omega)))
    have I5 := hide (show Blk w5 w3.heap.size (cellsI r) 44 from (ht5.1.block _ hk4 (by simp; omega)).trans K4.out)
    have C5 := hide (And.intro hc5 ht5)
    have cL := V5.out.cell
    clear hv hrow hsh hc5 ht5 K4 HK
    by_cases hfit : pre.length + 1 ≤ zs.length / 128
    · gi_wp2_with (first | (refine wpListIn_load_mid rfl 44 _ rfl w3.heap.size 0 rfl (r.map (Value.int .i64)) _ (row_range I5.out) Tryd.underlying44 rfl (by rw [List.length_map, HN.out]; exact info24) ?_) | (refine wpListIn_build1 rfl 27 44 _ rfl (cellsI r) rfl i0 _ Tryd.underlying27 hi hz0 (by rw [hz1, HZ.out]) (by rw [HZ.out]; omega) (by rw [HZ.out]; omega) ?_) | (gi_at_builtin; refine wpListIn_append_fits _ rfl _ _ 27 rfl (w.heap.size + 1) 44 i0 24 Tryd.underlying27 hi hz1 w1.heap.size pre.length (zs.length / 128) _ rfl (R5.out.alloc _) ⟨w5.heap.size, 0, none⟩ 1 1 (r.map (Value.int .i64)) rfl (by rw [List.length_map, HN.out]) (cells_new w5 r _) (ints_oneCell _ _) hfit ?_; intro w6 o6 g6; have O6 := hide o6; have G6 := hide g6; have cL6 := ((V5.out.alloc (.cells (cellsI r) 44)).kept g6 (by simp; omega)).cell; have fL6 := ((V5.out.alloc (.cells (cellsI r) 44)).kept g6 (by simp; omega)).frozen; clear o6 g6))
      rw [hsz]
      exact Itb.next HI.out (by omega) (by omega) HB4.out C5.out.1 C5.out.2 HSk.out.symm V5.out _ G6.out (by
        rw [HSn.out, List.map_append, show (pre ++ [x]).length = pre.length + 1 from by simp]
        exact O6.out) (by simp [Value.ownBlock]; omega) (.inl (by simp))
    · gi_wp2_with (first | (refine wpListIn_load_mid rfl 44 _ rfl w3.heap.size 0 rfl (r.map (Value.int .i64)) _ (row_range I5.out) Tryd.underlying44 rfl (by rw [List.length_map, HN.out]; exact info24) ?_) | (refine wpListIn_build1 rfl 27 44 _ rfl (cellsI r) rfl i0 _ Tryd.underlying27 hi hz0 (by rw [hz1, HZ.out]) (by rw [HZ.out]; omega) (by rw [HZ.out]; omega) ?_) | (gi_at_builtin; refine wpListIn_append_own _ rfl _ _ 27 rfl (w.heap.size + 1) 44 i0 (.agg (cellsI (List.replicate 24 0))) 24 192 Tryd.underlying27 hi hz0 hz1 hz2 rfl (by decide) _ _ _ rfl (R5.out.alloc _) ⟨w5.heap.size, 0, none⟩ 1 1 (r.map (Value.int .i64)) rfl (by rw [List.length_map, HN.out]) (cells_new w5 r _) (ints_oneCell _ _) (by unfold maxLen; omega) (by omega) (by simp; omega) ?_; intro v6 w6 o6 g6 f6; obtain ⟨gg, cap6, rfl⟩ := ownsRow_succ o6; have O6 := hide o6; have G6 := hide (show (w5.alloc (.cells (cellsI r) 44)).grownBy w6 (some w1.heap.size) from g6); have cL6 := ((V5.out.alloc (.cells (cellsI r) 44)).kept G6.out (by simp; omega)).cell; have fL6 := ((V5.out.alloc (.cells (cellsI r) 44)).kept G6.out (by simp; omega)).frozen; clear o6 g6 f6))
      rw [hsz]
      exact Itb.next HI.out (by omega) (by omega) HB4.out C5.out.1 C5.out.2 HSk.out.symm V5.out _ G6.out (by
        rw [HSn.out, List.map_append, show (pre ++ [x]).length = pre.length + 1 from by simp]
        exact O6.out) (by have h := V5.out.alloc (.cells (cellsI r) 44); exact fun e => (h.kept G6.out (by simp; omega)).not_row (by decide) O6.out e) (.inr (by simp; omega))
  case done =>
    rintro D ys W hD rfl hI hK
    rw [hsz] at hD
    obtain ⟨v, hv, hrow, _⟩ := hI.row
    obtain ⟨a', cap', rfl⟩ := ownT_shape hrow
    obtain ⟨ev, c5, hf⟩ := hI.ck.fault
    have cL := hv.cell
    have HRow := hide hrow
    have HK := hide hK
    have HF := hide hf
    have hle : w.heap.size ≤ w2.heap.size + 3 := by omega
    have HOldD := hide (hI.old.drew.trans (belowK_b (w := w) (Nat.le_refl _) W.drew D _ (.deferred none) (by omega) hK rfl rfl))
    clear hI hrow hK hv hf
    gi_wp2
    gi_region_o
    gi_wp2
    refine ⟨by simp, .inl ⟨_, _, rfl, run_takeDeferred (show W.drew.heap[D]? = _ from HK.out), ?_⟩⟩
    refine ⟨_, results_tmp2 rfl _ _ _, _, ev, rfl, ?_, ?_, HOldD.out⟩
    · exact FaultIs.putObj (HF.out.mono (by omega)) HK.out rfl
    · have h := own_mono (ownsRow_putObj (W := W.drew) HRow.out (.deferred none) HK.out rfl) (show w.heap.size ≤ w.heap.size + 1 by omega)
      rw [List.length_range] at h
      exact h
  case stop =>
    rintro D cd pre W hD hSp hx
    cases hx
end Go.Proofs.YtelcphnlkdffbaaDoor

namespace Go.Proofs.YtelcphnlkdffbaaDoor
set_option linter.unusedVariables false
set_option linter.unusedSimpArgs false
open Go.RowKit

/-- How many inodes the bytes tell, their integers, and whether they are a table. -/
def numDT (zs : List Int) : Nat := pcs zs.length 128
def rowsDT (zs : List Int) : List Int := readZ zs (List.range (numDT zs))
def okDT (zs : List Int) : Bool := decide (zs.length ≤ 128128) && readOk zs (List.range (numDT zs)) && (okTo (rowsDT zs) (numDT zs) (numDT zs) && decide (numDT zs = tabN (rowsDT zs) (numDT zs)))
def codeDT (zs : List Int) : Int := if okDT zs = true then 0 else 21
def cntDT (zs : List Int) : Nat := if okDT zs = true then numDT zs else 0
def decDT (zs : List Int) : List Int := if okDT zs = true then rowsDT zs else []
theorem rowsDT_len (zs : List Int) : (rowsDT zs).length = numDT zs * 24 := by unfold rowsDT; rw [readZ_len, List.length_range]
theorem numDT_le {zs : List Int} (h : zs.length ≤ 128128) : numDT zs ≤ 1001 := by unfold numDT pcs; omega

theorem toldT_nil (v : Value) (w : World) (a : Option Addr) (len cap : Nat) (hv : v = .slice a len cap) :
    Calls Tryd.prog 37 #[v, .nilIface] w fun e w' => e = .returned (.tuple #[v, .int .i64 0]) ∧ w' = w := by
  subst hv
  go_enter Tryd.func37, Tryd.ntmps37
  go_wp2
  go_ret2
  exact ⟨rfl, rfl⟩
theorem toldT_bad (v : Value) (w : World) (a : Option Addr) (len cap m : Nat) (ev : Value) (code : Int) (hv : v = .slice a len cap) (hf : Flt w w.heap.size m ev code ∨ ∃ lo, Flt w lo m ev code) (hg : ErrT w) :
    Calls Tryd.prog 37 #[v, ev] w fun e w' => e = .returned (.tuple #[.slice none 0 0, .int .i64 code]) ∧ Below w.heap.size w w' := by
  subst hv
  obtain ⟨lo, hf⟩ : ∃ lo, Flt w lo m ev code := by rcases hf with h | h; exact ⟨_, h⟩; exact h
  obtain ⟨t', x', rfl⟩ := hf.iface
  have H4 := hide hf
  have HG := hide hg
  clear hf hg
  go_enter Tryd.func37, Tryd.ntmps37
  go_wp2_with (go_at_call 29; refine (codeOf_any m _ code _ _ H4.out HG.out).mono ?_; rintro e w3 ⟨rfl, hb3⟩)
  go_ret2
  exact ⟨rfl, hb3⟩

theorem inside_set (b : Nat) (place : ByteArray) (t : TypeId) (x : Addr) (w : World) (c1 : w.cell? ⟨b, 1, none⟩ = some .nilIface) (f1 : w.frozen? ⟨b, 1, none⟩ = false) :
    Calls Tryd.prog 35 #[.pointer (some ⟨b, 0, none⟩), .string place, .iface t (.pointer (some x))] w fun e w' => e = .returned (.tuple #[]) ∧ w' = (w.setCell ⟨b, 1, none⟩ (.iface 101 (.pointer (some ⟨w.heap.size, 0, none⟩)))).alloc (.cells #[.string place, .iface t (.pointer (some x))] 103) := by
  have hlt : b < w.heap.size := cell_lt c1
  go_enter Tryd.func35, Tryd.ntmps35
  go_wp2
  go_end0
  exact ⟨rfl, rfl⟩
theorem inside_keep (b : Nat) (place : ByteArray) (t : TypeId) (x : Value) (v : Value) (w : World) (c1 : w.cell? ⟨b, 1, none⟩ = some (.iface t x)) (hv : v = .nilIface ∨ ∃ t' x', v = .iface t' x') :
    Calls Tryd.prog 35 #[.pointer (some ⟨b, 0, none⟩), .string place, v] w fun e w' => e = .returned (.tuple #[]) ∧ w' = w := by
  rcases hv with rfl | ⟨t', x', rfl⟩
  · go_enter Tryd.func35, Tryd.ntmps35
    go_wp2
    go_end0
    exact ⟨rfl, rfl⟩
  · go_enter Tryd.func35, Tryd.ntmps35
    go_wp2
    go_end0
    exact ⟨rfl, rfl⟩
theorem need_keep (b : Nat) (place : ByteArray) (t : TypeId) (x : Value) (code : Int) (hd : Bool) (w : World) (c0 : w.cell? ⟨b, 0, none⟩ = some (.int .i64 code)) (c1 : w.cell? ⟨b, 1, none⟩ = some (.iface t x)) :
    Calls Tryd.prog 36 #[.pointer (some ⟨b, 0, none⟩), .string place, .bool hd] w fun e w' => e = .returned (.tuple #[]) ∧ Below w.heap.size w w' := by
  cases hd with
  | true =>
    go_enter Tryd.func36, Tryd.ntmps36
    go_wp2
    go_end0
    exact ⟨rfl, Below.refl _ _⟩
  | false =>
    have hb0 : Below w.heap.size w (w.alloc (.cells #[.int .i64 code] 83)) := (Below.refl _ _).alloc (Nat.le_refl _) _
    have HC := hide (show (w.alloc (.cells #[.int .i64 code] 83)).cell? ⟨b, 1, none⟩ = some (.iface t x) from (hb0.cell (p := ⟨b, 1, none⟩) (cell_lt c1)).trans c1)
    have HB := hide hb0
    clear hb0
    go_enter Tryd.func36, Tryd.ntmps36
    go_wp2_with (go_at_call 35; refine (inside_keep b place t x _ _ HC.out (.inr ⟨_, _, rfl⟩)).mono ?_; rintro e w' ⟨rfl, hw⟩; rw [hw]; clear hw)
    go_end0
    exact ⟨rfl, HB.out⟩
theorem okDT_not {zs : List Int} (h : okDT zs = false) : codeDT zs = 21 ∧ cntDT zs = 0 ∧ decDT zs = [] := by
  unfold codeDT cntDT decDT; rw [h]; exact ⟨rfl, rfl, rfl⟩
theorem okDT_yes {zs : List Int} (h : okDT zs = true) : codeDT zs = 0 ∧ cntDT zs = numDT zs ∧ decDT zs = rowsDT zs := by
  unfold codeDT cntDT decDT; rw [h]; exact ⟨rfl, rfl, rfl⟩

set_option maxRecDepth 100000 in
set_option maxHeartbeats 1000000 in
/-- Behind a fault in the bytes: nothing more is set, the fault is told. -/
theorem implDT_bad (v : Value) (zs : List Int) (w : World) (h : Rd .u8 w v zs) (hg : ErrT w)
    (hR : Calls Tryd.prog 34 #[v] w fun e w' => ∃ v' ev n, ∃ Z : List Int, e = .returned (.tuple #[v', ev]) ∧ (∃ m, Flt w' w.heap.size m ev 21) ∧ w'.ownsRow w.heap.size 44 24 v' n (Z.map (Value.int .i64)) ∧ n ≤ 1001 ∧ Below w.heap.size w w') :
    Calls Tryd.prog 17 #[v] w fun e w' => e = .returned (.tuple #[.slice none 0 0, .int .i64 21]) ∧ Below w.heap.size w w' := by
  obtain ⟨a, cap, rfl, _⟩ := h
  have HG := hide hg
  have HR := hide hR
  clear hg hR
  go_enter Tryd.func17, Tryd.ntmps17
  go_wp2_with (go_at_call 34; fail)
  refine HR.out.mono ?_
  rintro e w1 ⟨v1, ev1, n, Z, rfl, ⟨m, hf1⟩, o1, hn, b1⟩
  obtain ⟨a1, cap1, rfl⟩ := ownT_shape o1
  obtain ⟨t', x', rfl⟩ := hf1.iface
  have O1 := hide o1
  have F1 := hide hf1
  have B1 := hide b1
  have hZ1 : Z.length = n * 24 := by have := o1.1; simpa using this
  clear o1 hf1 b1 HR
  have c1 : (w1.alloc (.cells #[.int .i64 21, .nilIface] 64)).cell? ⟨w1.heap.size, 1, none⟩ = some .nilIface := by simp
  have f1 : (w1.alloc (.cells #[.int .i64 21, .nilIface] 64)).frozen? ⟨w1.heap.size, 1, none⟩ = false := by simp
  have C1 := hide (And.intro c1 f1)
  clear c1 f1
  go_wp2_with (go_at_call 35; fail)
  refine (inside_set w1.heap.size _ t' _ _ C1.out.1 C1.out.2).mono ?_
  rintro e w2 ⟨rfl, hw2⟩
  have hs2 : w2.heap.size = w1.heap.size + 2 := by rw [hw2]; simp
  have hk2 : ∀ k, k < w1.heap.size → w2.heap[k]? = w1.heap[k]? := fun k hk => by
    rw [hw2, Below.heap_alloc _ _ k (by simp; omega), Below.heap_setCell _ _ _ k (by show k ≠ w1.heap.size; omega), Below.heap_alloc _ _ k hk]
  have hB12 : Below w1.heap.size w1 w2 := by
    rw [hw2]
    exact (((Below.refl _ _).alloc (Nat.le_refl _) _).setCell (p := ⟨w1.heap.size, 1, none⟩) (Nat.le_refl _) _).alloc (by simp) _
  have hc20 : w2.cell? ⟨w1.heap.size, 0, none⟩ = some (.int .i64 21) := by
    rw [hw2, World.cell?_alloc_lt _ _ ⟨w1.heap.size, 0, none⟩ (by simp), World.cell?_setCell_other _ _ _ _ (by intro q; injection q with q1 q2; cases q2)]
    simp
  have hc21 : w2.cell? ⟨w1.heap.size, 1, none⟩ = some (.iface 101 (.pointer (some ⟨w1.heap.size + 1, 0, none⟩))) := by
    rw [hw2, World.cell?_alloc_lt _ _ ⟨w1.heap.size, 1, none⟩ (by simp), World.cell?_setCell_same _ _ _ (by simp : _ = some .nilIface)]
    simp
  have hfl : Flt w2 w.heap.size (m + 1) (.iface 101 (.pointer (some ⟨w1.heap.size + 1, 0, none⟩))) 21 := by
    refine ⟨w1.heap.size + 1, _, rfl, by have := B1.out.size; omega, ?_, F1.out.below hB12⟩
    rw [hw2, World.cell?_alloc_at _ _ _ _ (by simp)]; rfl
  have K2 := hide (And.intro hc20 (And.intro hc21 (And.intro hfl hB12)))
  have R2 := hide ((RdT.own O1.out).below hB12)
  clear hw2 hk2 hc20 hfl hB12
  have c20 := K2.out.1
  go_wp2_with (go_at_call 28; fail)
  refine (tableFault_any _ n Z 21 _ R2.out).mono ?_
  rintro e w3 ⟨ev3, rfl, hf3, b3⟩
  have hv3 : ev3 = .nilIface ∨ ∃ t' x', ev3 = .iface t' x' := by
    rcases hf3 with ⟨_, rfl⟩ | ⟨_, m3, h3⟩
    · exact .inl rfl
    · obtain ⟨t3, x3, rfl⟩ := h3.iface; exact .inr ⟨_, _, rfl⟩
  have HV3 := hide hv3
  have hs1 := B1.out.size
  have K3 := hide (show w3.cell? ⟨w1.heap.size, 0, none⟩ = some (.int .i64 21) ∧ w3.cell? ⟨w1.heap.size, 1, none⟩ = some (.iface 101 (.pointer (some ⟨w1.heap.size + 1, 0, none⟩))) ∧ Flt w3 w.heap.size (m + 1) (.iface 101 (.pointer (some ⟨w1.heap.size + 1, 0, none⟩))) 21 ∧ Below w.heap.size w w3 from
    ⟨(b3.cell (p := ⟨w1.heap.size, 0, none⟩) (by show w1.heap.size < w2.heap.size; omega)).trans K2.out.1, (b3.cell (p := ⟨w1.heap.size, 1, none⟩) (by show w1.heap.size < w2.heap.size; omega)).trans K2.out.2.1, K2.out.2.2.1.below b3, (B1.out.trans (K2.out.2.2.2.mono hs1)).trans (b3.mono (by omega))⟩)
  have R3 := hide (R2.out.below b3)
  have hs3 := b3.size
  clear hf3 hv3 b3 c20 hc21 K2 R2
  go_wp2_with fail
  refine (inside_keep w1.heap.size _ _ _ ev3 _ K3.out.2.1 HV3.out).mono ?_
  rintro e w' ⟨rfl, hw'⟩
  rw [hw']
  clear hw' w'
  go_wp2_with (go_at_call 27; fail)
  refine (tableOf_any _ n Z _ R3.out (by omega)).mono ?_
  rintro e w4 ⟨v4, rfl, o4, b4⟩
  obtain ⟨a4, cap4, rfl⟩ := ownT_shape o4
  have K4 := hide (show w4.cell? ⟨w1.heap.size, 0, none⟩ = some (.int .i64 21) ∧ w4.cell? ⟨w1.heap.size, 1, none⟩ = some (.iface 101 (.pointer (some ⟨w1.heap.size + 1, 0, none⟩))) ∧ Flt w4 w.heap.size (m + 1) (.iface 101 (.pointer (some ⟨w1.heap.size + 1, 0, none⟩))) 21 ∧ Below w.heap.size w w4 from
    ⟨(b4.cell (p := ⟨w1.heap.size, 0, none⟩) (by show w1.heap.size < w3.heap.size; omega)).trans K3.out.1, (b4.cell (p := ⟨w1.heap.size, 1, none⟩) (by show w1.heap.size < w3.heap.size; omega)).trans K3.out.2.1, K3.out.2.2.1.below b4, K3.out.2.2.2.trans (b4.mono K3.out.2.2.2.size)⟩)
  have hs4 := b4.size
  clear o4 b4 K3 R3
  go_wp2_with fail
  refine (need_keep w1.heap.size _ _ _ 21 _ _ K4.out.1 K4.out.2.1).mono ?_
  rintro e w5 ⟨rfl, b5⟩
  have hc51 := (b5.cell (p := ⟨w1.heap.size, 1, none⟩) (by show w1.heap.size < w4.heap.size; omega)).trans K4.out.2.1
  have K5 := hide (show Flt w5 w.heap.size (m + 1) (.iface 101 (.pointer (some ⟨w1.heap.size + 1, 0, none⟩))) 21 ∧ Below w.heap.size w w5 from ⟨K4.out.2.2.1.below b5, K4.out.2.2.2.trans (b5.mono K4.out.2.2.2.size)⟩)
  clear b5 K4
  go_wp2_with (go_at_call 37; fail)
  refine (toldT_bad _ _ a1 n cap1 (m + 1) _ 21 rfl (.inr ⟨_, K5.out.1⟩) (HG.out.below K5.out.2)).mono ?_
  rintro e w6 ⟨rfl, b6⟩
  have B6 := hide (K5.out.2.trans (b6.mono K5.out.2.size))
  clear b6 hc51
  go_wp2
  go_ret2
  exact ⟨rfl, B6.out⟩
end Go.Proofs.YtelcphnlkdffbaaDoor

namespace Go.Proofs.YtelcphnlkdffbaaDoor
set_option linter.unusedVariables false
set_option linter.unusedSimpArgs false
open Go.RowKit

set_option maxRecDepth 100000 in
set_option maxHeartbeats 1000000 in
theorem implDT_good (v : Value) (zs : List Int) (w : World) (h : Rd .u8 w v zs) (hbd : ∀ z ∈ zs, 0 ≤ z ∧ z < 256) (hz : zs.length ≤ 140737488355328) (hg : ErrT w) (hlen : zs.length ≤ 128128) (hr : readOk zs (List.range (numDT zs)) = true) :
    Calls Tryd.prog 17 #[v] w fun e w' => ∃ v', e = .returned (.tuple #[v', .int .i64 (codeDT zs)]) ∧ w'.ownsRow w.heap.size 44 24 v' (cntDT zs) ((decDT zs).map (Value.int .i64)) ∧ Below w.heap.size w w' := by
  have HX := hide (And.intro h (And.intro hbd hg))
  obtain ⟨a, cap, rfl, _⟩ := h
  have HL := hide (And.intro hlen hr)
  have HO := hide (show okDT zs = (okTo (rowsDT zs) (numDT zs) (numDT zs) && decide (numDT zs = tabN (rowsDT zs) (numDT zs))) from by unfold okDT; rw [decide_eq_true hlen, hr, Bool.true_and, Bool.true_and])
  have hn1 := numDT_le hlen
  clear hbd hg hr
  go_enter Tryd.func17, Tryd.ntmps17
  go_wp2_with (go_at_call 34; fail)
  refine (readTable_ok _ zs _ HX.out.1 HX.out.2.1 hz HX.out.2.2 HL.out.1).mono ?_
  rintro e w1 ⟨v1, ev1, rfl, hf1, o1, b1⟩
  obtain ⟨a1, cap1, rfl⟩ := ownT_shape o1
  rcases hf1 with ⟨_, rfl⟩ | ⟨hf1, _⟩
  case inr => exact absurd (HL.out.2.symm.trans hf1) (by simp)
  have O1 := hide (show w1.ownsRow w.heap.size 44 24 (.slice a1 (numDT zs) cap1) (numDT zs) ((rowsDT zs).map (Value.int .i64)) from o1)
  have B1 := hide b1
  have HLt := hide (fun k hk => (o1.lt k hk).2)
  rw [show pcs zs.length 128 = numDT zs from rfl] at HLt ⊢
  clear o1 b1
  have hrl := rowsDT_len zs
  generalize hNe : numDT zs = N at O1 HO hn1 HLt hrl ⊢
  generalize hZe : rowsDT zs = Z at O1 HO hrl
  have HFin := hide (show ∀ W : World, W.ownsRow w.heap.size 44 24 (.slice a1 N cap1) N (Z.map (Value.int .i64)) → W.ownsRow w.heap.size 44 24 (.slice a1 N cap1) (numDT zs) ((rowsDT zs).map (Value.int .i64)) from fun W h => by rw [hNe, hZe]; exact h)
  clear hNe hZe hrl
  have KF := hide (And.intro (Ck.fresh w1 21 64) ((Below.refl w1.heap.size w1).alloc (Nat.le_refl _) (.cells #[.int .i64 21, .nilIface] 64)))
  go_wp2_with (go_at_call 35; fail)
  refine (inside_nil w1.heap.size (w1.heap.size + 1) _ 21 true _ KF.out.1).mono ?_
  rintro e w2 ⟨rfl, hw2⟩
  have K2 := hide (show Ck w2 w1.heap.size (w1.heap.size + 1) 21 true ∧ Below w1.heap.size w1 w2 ∧ w1.heap.size + 1 ≤ w2.heap.size from by rw [hw2]; exact ⟨KF.out.1, KF.out.2, by simp⟩)
  clear hw2 KF
  have c20 := K2.out.1.1
  have hs2 := K2.out.2.2
  have hs1 := B1.out.size
  go_wp2_with (go_at_call 28; fail)
  refine (tableFault_any _ N Z 21 _ ((RdT.own O1.out).below K2.out.2.1)).mono ?_
  rintro e w3 ⟨ev3, rfl, hf3, b3⟩
  have hs3 := b3.size
  have B13 := hide (K2.out.2.1.trans (b3.mono (by omega)))
  have F3 := hide (hf3.mono (show w1.heap.size + 1 ≤ w2.heap.size by omega))
  have C3 := hide (K2.out.1.below b3)
  clear hf3 b3 K2 c20
  go_wp2_with fail
  refine (inside_both w1.heap.size (w1.heap.size + 1) _ 21 true _ ev3 _ C3.out F3.out (by omega) (by omega)).mono ?_
  rintro e w4 ⟨rfl, hc4, ht4⟩
  rw [Bool.true_and] at hc4
  have hs4 := ht4.1.size
  have C4 := hide hc4
  have B14 := hide (B13.out.grown ht4.1 (by omega) (fun k e => by cases e; exact Nat.le_refl _))
  clear hc4 ht4 C3 F3 B13
  go_wp2_with (go_at_call 27; fail)
  refine (tableOf_any _ N Z _ ((RdT.own O1.out).below B14.out) (by omega)).mono ?_
  rintro e w5 ⟨v5, rfl, o5, b5⟩
  obtain ⟨a5, cap5, rfl⟩ := ownT_shape o5
  have hs5 := b5.size
  have C5 := hide (C4.out.below b5)
  have B15 := hide (B14.out.trans (b5.mono (by omega)))
  clear o5 b5 C4 B14
  go_wp2_with fail
  refine (need_any w1.heap.size (w1.heap.size + 1) _ 21 _ _ _ C5.out (by omega) (by omega)).mono ?_
  rintro e w6 ⟨rfl, hc6, ht6⟩
  have hs6 := ht6.1.size
  have hq : ((N : Int) == ((tabN Z N : Nat) : Int)) = decide (N = tabN Z N) := by
    rw [Bool.eq_iff_iff, beq_iff_eq, decide_eq_true_eq]; omega
  rw [hq, ← HO.out] at hc6
  have B16 := hide (B15.out.grown ht6.1 (by omega) (fun k e => by cases e; exact Nat.le_refl _))
  have B6 := hide (B1.out.trans (B16.out.mono hs1))
  obtain ⟨ev6, c61, hf6⟩ := hc6.fault
  clear hc6 ht6 C5 B15 hq
  cases hok : okDT zs with
  | true =>
    rw [hok] at hf6
    rcases hf6 with ⟨_, rfl⟩ | ⟨hf6, _⟩
    case inr => cases hf6
    have HY := hide (okDT_yes hok)
    clear hok
    go_wp2_with (go_at_call 37; fail)
    refine (toldT_nil _ _ a1 N cap1 rfl).mono ?_
    rintro e w7 ⟨rfl, hw7⟩
    rw [hw7]
    clear hw7
    go_wp2
    go_ret2
    rw [HY.out.1, HY.out.2.1, HY.out.2.2]
    refine ⟨_, rfl, ?_, B6.out⟩
    exact HFin.out _ (own_below O1.out B16.out)
  | false =>
    rw [hok] at hf6
    rcases hf6 with ⟨hf6, _⟩ | ⟨_, m, hf6⟩
    · cases hf6
    have HF6 := hide hf6
    have HY := hide (okDT_not hok)
    obtain ⟨t', x', rfl⟩ := hf6.iface
    clear hf6 hok
    go_wp2_with (go_at_call 37; fail)
    refine (toldT_bad _ _ a1 N cap1 m _ 21 rfl (.inr ⟨_, HF6.out⟩) (HX.out.2.2.below B6.out)).mono ?_
    rintro e w7 ⟨rfl, b7⟩
    have B7 := hide (B6.out.trans (b7.mono B6.out.size))
    clear b7
    go_wp2
    go_ret2
    rw [HY.out.1, HY.out.2.1, HY.out.2.2]
    refine ⟨_, rfl, ?_, B7.out⟩
    exact World.ownsRow_nil _ _ _ _

theorem implDT_any (v : Value) (zs : List Int) (w : World) (h : Rd .u8 w v zs) (hbd : ∀ z ∈ zs, 0 ≤ z ∧ z < 256) (hz : zs.length ≤ 140737488355328) (hg : ErrT w) :
    Calls Tryd.prog 17 #[v] w fun e w' => ∃ v', e = .returned (.tuple #[v', .int .i64 (codeDT zs)]) ∧ w'.ownsRow w.heap.size 44 24 v' (cntDT zs) ((decDT zs).map (Value.int .i64)) ∧ Below w.heap.size w w' := by
  by_cases hlen : zs.length ≤ 128128
  · cases hr : readOk zs (List.range (numDT zs)) with
    | true => exact implDT_good v zs w h hbd hz hg hlen hr
    | false =>
      have hno : okDT zs = false := by unfold okDT; rw [hr, Bool.and_false, Bool.false_and]
      have hy := okDT_not hno
      refine (implDT_bad v zs w h hg ((readTable_ok v zs w h hbd hz hg hlen).mono ?_)).mono ?_
      · rintro e w' ⟨v', ev, rfl, hf, o, b⟩
        rcases hf with ⟨hf, _⟩ | ⟨_, m, hf⟩
        · exact absurd (hr.symm.trans hf) (by simp)
        · exact ⟨v', ev, _, _, rfl, ⟨m, hf⟩, o, numDT_le hlen, b⟩
      · rintro e w' ⟨rfl, b⟩
        refine ⟨_, by rw [hy.1], ?_, b⟩
        rw [hy.2.1, hy.2.2]
        exact World.ownsRow_nil _ _ _ _
  · have hno : okDT zs = false := by unfold okDT; rw [decide_eq_false hlen, Bool.false_and, Bool.false_and]
    have hy := okDT_not hno
    refine (implDT_bad v zs w h hg ((readTable_big v zs w h hbd hz hg hlen).mono ?_)).mono ?_
    · rintro e w' ⟨ev, rfl, ⟨m, hf⟩, b⟩
      exact ⟨_, ev, 0, [], rfl, ⟨m, hf⟩, World.ownsRow_nil _ _ _ _, by omega, b⟩
    · rintro e w' ⟨rfl, b⟩
      refine ⟨_, by rw [hy.1], ?_, b⟩
      rw [hy.2.1, hy.2.2]
      exact World.ownsRow_nil _ _ _ _
end Go.Proofs.YtelcphnlkdffbaaDoor

namespace Go.Proofs.YtelcphnlkdffbaaDoor
set_option linter.unusedVariables false
set_option linter.unusedSimpArgs false
open Go.RowKit

theorem tableSize_any (n : Nat) (w : World) (hn : n ≤ 140737488355328) : Calls Tryd.prog 32 #[.int .i64 (n : Int)] w fun e w' => e = .returned (.bool (decide (256 ≤ n) && (decide (n % 128 = 0) && decide (n ≤ 128128)))) ∧ w' = w := by
  by_cases h1 : 256 ≤ n
  · by_cases h2 : n % 128 = 0
    · have HR := hide (show (decide (256 ≤ n) && (decide (n % 128 = 0) && decide (n ≤ 128128))) = decide ((n : Int) ≤ 128128) from by simp [h1, h2]; omega)
      rw [HR.out]
      have h1' : (256 : Int) ≤ (n : Int) := by omega
      have h2' : (n : Int) % 128 = 0 := by omega
      go_enter Tryd.func32, Tryd.ntmps32
      go_wp2
      go_ret
      exact ⟨rfl, rfl⟩
    · have HR := hide (show (decide (256 ≤ n) && (decide (n % 128 = 0) && decide (n ≤ 128128))) = false from by simp [h2])
      rw [HR.out]
      have h1' : (256 : Int) ≤ (n : Int) := by omega
      have h2' : ¬ (n : Int) % 128 = 0 := by omega
      go_enter Tryd.func32, Tryd.ntmps32
      go_wp2
      go_ret
      exact ⟨rfl, rfl⟩
  · have HR := hide (show (decide (256 ≤ n) && (decide (n % 128 = 0) && decide (n ≤ 128128))) = false from by simp [h1])
    rw [HR.out]
    have h1' : ¬ (256 : Int) ≤ (n : Int) := by omega
    go_enter Tryd.func32, Tryd.ntmps32
    go_wp2
    go_ret
    exact ⟨rfl, rfl⟩
theorem wpList_build1 {P : Program} {ops : Array Oper} {rest : List Oper} {o : Oper} {a : Act} {w : World} {Q : Exit → Act → World → Prop} (hgd : o.guard = none) (t e : TypeId) (x : Operand) (ho : o.op = .buildSlice t 1 #[(0, x)]) (cells : Array Value) (hx : a.eval x = .agg cells) (i : TypeInfo) (z : Value)
    (hu : P.underlying t = some (.slice e)) (hi : P.info? e = some i) (hz : i.zero = some z) (hs : i.size = cells.size) (hp : 0 < cells.size) (hl : cells.size ≤ 1000)
    (h : wpList P ops Q rest (a.put o.dst (.slice (some ⟨w.heap.size, 0, none⟩) 1 1)) (w.alloc (.cells cells e))) : wpList P ops Q (o :: rest) a w := by
  have hf : Instr.fill (fun j => some (j * i.size, i.size)) ((Array.range (1 * i.size)).map (z.cells[· % z.cells.size]!)) [(0, Value.agg cells)] = some cells := by
    have := Great.fill_whole (s := i.size) (by omega) [.agg cells] ((Array.range (1 * i.size)).map (z.cells[· % z.cells.size]!)) (by intro v hv; simp at hv; subst hv; exact hs.symm) (by simp)
    simpa [Value.cells] using this
  have he : ((#[(0, x)] : Array (Nat × Operand)).map (fun p => (p.1, a.eval p.2))).toList = [(0, Value.agg cells)] := by simp [hx]
  exact wpList_buildSlice hgd t e 1 _ ho cells i z hu hi hz (by omega) (by omega) (by rw [← he] at hf; exact hf) h
theorem own_emptyS (w : World) (e : TypeId) (sz : Nat) : (w.alloc (.cells #[] e)).ownsRow w.heap.size e sz (.slice (some ⟨w.heap.size, 0, none⟩) 0 0) 0 [] :=
  ⟨by simp, .inr ⟨w.heap.size, 0, #[], rfl, Nat.le_refl _, heap_alloc_new w _, Nat.le_refl _, by simp, by simp, by simp⟩⟩
theorem okTo_tab (Z : List Int) (N : Nat) (hZ : Z.length = N * 24) (h2 : 2 ≤ N) (h3 : N ≤ 1001) : okTo Z N N = okTab Z N := by
  have hl := lastK_lt Z N
  have hlt : lastT Z N ≤ 1000 := by unfold lastT; omega
  have e1 : decide (2 ≤ (N : Int)) = true := by simp; omega
  have e2 : decide ((N : Int) ≤ 1001) = true := by simp; omega
  have e3 : decide (N = 0) = false := by simp; omega
  unfold okTo okTab
  rw [e1, e2, e3, decide_eq_true hlt, rowO, if_pos (by omega)]
  simp
theorem enc_num (Z : List Int) (N : Nat) (hZ : Z.length = N * 24) (h : okTab Z N = true) : (encTab Z N).length = tabN Z N * 128 := by
  have hc : allRows Z N = true := by unfold okTab at h; rw [Bool.and_eq_true] at h; exact h.1
  have ht : tabN Z N = lastT Z N + 1 := trim_last Z N hc (by omega)
  unfold encTab
  rw [if_pos h, flat_len Z N hZ, ht]
theorem readOk_at {zs : List Int} {N k : Nat} (hk : k < N) (h : codeDI (pieceB zs 128 k) ≠ 0) : readOk zs (List.range N) = false := by
  cases hr : readOk zs (List.range N) with
  | false => rfl
  | true =>
    unfold readOk at hr
    rw [List.all_eq_true] at hr
    have := hr k (by simpa using hk)
    simp at this
    exact absurd this h
set_option maxRecDepth 100000 in
set_option maxHeartbeats 1000000 in
theorem specDT_any (v : Value) (zs : List Int) (w : World) (h : Rd .u8 w v zs) (hbd : ∀ z ∈ zs, 0 ≤ z ∧ z < 256) (hz : zs.length ≤ 140737488355328) :
    Calls Tryd.prog 15 #[v] w fun e w' => ∃ v', e = .returned (.tuple #[v', .int .i64 (codeDT zs)]) ∧ w'.ownsRow w.heap.size 44 24 v' (cntDT zs) ((decDT zs).map (Value.int .i64)) ∧ Below w.heap.size w w' := by
  have HX := hide (And.intro h hbd)
  obtain ⟨a, cap, rfl, hsh⟩ := h
  clear hbd
  cases hsz : (decide (256 ≤ zs.length) && (decide (zs.length % 128 = 0) && decide (zs.length ≤ 128128))) with
  | false =>
    have HS := hide hsz
    clear hsz
    go_enter Tryd.func15, Tryd.ntmps15
    go_wp2_with (go_at_call 32; fail)
    refine (tableSize_any zs.length _ hz).mono ?_
    rintro e w1 ⟨rfl, hw1⟩
    rw [HS.out, hw1]
    clear hw1
    go_wp2
    go_ret2
    have hno : okDT zs = false := by
      cases hk : okDT zs with
      | false => rfl
      | true =>
        exfalso
        have h3 := HS.out
        unfold okDT at hk
        simp only [Bool.and_eq_true, decide_eq_true_eq] at hk
        obtain ⟨⟨hk1, hk2⟩, hk3, hk4⟩ := hk
        unfold okTo at hk3
        simp only [Bool.and_eq_true, decide_eq_true_eq] at hk3
        have hm : zs.length % 128 = 0 := by
          rcases Nat.eq_zero_or_pos (zs.length % 128) with h0 | h0
          · exact h0
          · exfalso
            have hlt : zs.length / 128 < numDT zs := by unfold numDT pcs; omega
            have hbad : codeDI (pieceB zs 128 (zs.length / 128)) ≠ 0 := by
              have hl := pieceB_len zs 128 (zs.length / 128)
              have hn : okDI (pieceB zs 128 (zs.length / 128)) = false := by
                unfold okDI
                rw [decide_eq_false (by omega), Bool.false_and]
              unfold codeDI
              rw [hn]
              decide
            rw [readOk_at hlt hbad] at hk2
            cases hk2
        have hn2 : 2 ≤ numDT zs := by have := hk3.1.1; omega
        have : 256 ≤ zs.length := by unfold numDT pcs at hn2; omega
        simp [hm, hk1, this] at h3
    rw [(okDT_not hno).1, (okDT_not hno).2.1, (okDT_not hno).2.2]
    exact ⟨_, rfl, World.ownsRow_nil _ _ _ _, Below.refl _ _⟩
  | true =>
    have HS := hide hsz
    clear hsz
    go_enter Tryd.func15, Tryd.ntmps15
    go_wp2_with (go_at_call 32; fail)
    refine (tableSize_any zs.length _ hz).mono ?_
    rintro e w1 ⟨rfl, hw1⟩
    rw [HS.out, hw1]
    clear hw1
    obtain ⟨hs1, hs2, hs3⟩ : 256 ≤ zs.length ∧ zs.length % 128 = 0 ∧ zs.length ≤ 128128 := by have h := HS.out; simpa using h
    obtain ⟨i0, hi, hz0, hz1, hz2⟩ := info_parts infoT24
    obtain ⟨b, off, rfl, hbw, hcell⟩ := hsh.2.1 (fun e => by rw [e] at hs1; simp at hs1)
    have hcapL := hsh.2.2
    have HCell := hide hcell
    obtain ⟨N, hN⟩ : ∃ N, N = zs.length / 128 := ⟨_, rfl⟩
    have hNum : numDT zs = N := by unfold numDT pcs; omega
    have HNum := hide hNum
    have hNL : zs.length = N * 128 := by omega
    have HOk := hide (show okDT zs = (readOk zs (List.range N) && (okTab (rowsDT zs) N && decide (N = tabN (rowsDT zs) N))) from by
      have hrl := rowsDT_len zs
      unfold okDT
      rw [decide_eq_true hs3, Bool.true_and, hNum, okTo_tab _ N (by rw [hrl, hNum]) (by omega) (by omega)])
    have H0 := hide (own_emptyS w 44 24)
    have hb0 := hide (show Below w.heap.size w (w.alloc (.cells #[] 44)) from (Below.refl _ _).alloc (Nat.le_refl _) _)
    clear hcell hsh hNum hN HS
    go_wp2
    go_loopw [4, 5] (fun o i wr => ∃ k : Nat, k ≤ N ∧ i = .int .i64 ((k * 128 : Nat) : Int) ∧ wr.ownsRow w.heap.size 44 24 o k ((readZ zs (List.range k)).map (Value.int .i64)) ∧ readOk zs (List.range k) = true ∧ Below w.heap.size w wr) (fun _ i _ => zs.length + 128 - (intOf i).toNat)
    case atStart => exact ⟨0, by omega, rfl, by simpa [readZ] using H0.out, rfl, hb0.out⟩
    case round =>
      clear H0 hb0
      obtain ⟨k, hk, rfl, hown, hok, hb1⟩ := hrel
      obtain ⟨la, lc, rfl⟩ := ownT_shape hown
      have HOw := hide hown
      have HRk := hide hok
      have HB := hide hb1
      clear hown hok
      by_cases hlt : k < N
      · have hl1 : k * 128 + 128 ≤ zs.length := by omega
        have HRd := hide (show Rd .u8 wr (.slice (some ⟨b, off + k * 128, none⟩) 128 (cap - k * 128)) (pieceB zs 128 k) from Rd.cut (k * 128) 128 (Nat.lt_of_lt_of_le hbw hb1.size) hcapL.2 hcapL.1 (fun i hi => (hb1.cell (p := ⟨b, off + i, none⟩) hbw).trans (HCell.out i hi)) hl1)
        have HBd := hide (pieceB_bd HX.out.2 128 k)
        have HSn := hide (show readZ zs (List.range (k + 1)) = readZ zs (List.range k) ++ decI (pieceB zs 128 k) from by rw [List.range_succ, readZ_snoc])
        have HSk := hide (show readOk zs (List.range (k + 1)) = (codeDI (pieceB zs 128 k) == 0) from by rw [List.range_succ, readOk_snoc, HRk.out, Bool.true_and])
        have HBad := hide (fun h => readOk_at (zs := zs) hlt h)
        have HN := hide (decI_len (pieceB zs 128 k))
        have hm1 : cap ≤ 9223372036854775807 := hcapL.2
        have hm2 : ((k * 128 : Nat) : Int) + 128 ≤ (cap : Int) := by have := hcapL.1; omega
        clear hb1
        go_wp2_with (go_at_call 33; fail)
        refine (specDI_any _ (pieceB zs 128 k) _ HRd.out HBd.out).mono ?_
        rintro e w3 ⟨rfl, b3⟩
        generalize decI (pieceB zs 128 k) = r at HN HSn ⊢
        generalize codeDI (pieceB zs 128 k) = cd at HSk HBad ⊢
        have HZ := hide (show (cellsI r).size = 24 from by rw [cellsI_size]; exact HN.out)
        have HK := hide (show Blk (w3.alloc (.cells (cellsI (List.replicate 24 0)) 44)) w3.heap.size (cellsI (List.replicate 24 0)) 44 ∧ Below w3.heap.size w3 (w3.alloc (.cells (cellsI (List.replicate 24 0)) 44)) from ⟨Blk.new _ _ _, (Below.refl _ _).alloc (Nat.le_refl _) _⟩)
        have O3 := hide (own_below HOw.out b3)
        have B3 := hide (HB.out.trans (b3.mono HB.out.size))
        clear b3 HRd HBd HOw HB
        by_cases hcd : cd = 0
        · subst hcd
          have HOk2 := hide (show readOk zs (List.range (k + 1)) = true from by rw [HSk.out]; rfl)
          go_wp2_with (first | (refine wpList_store_new w3.heap.size w3 rfl 44 _ _ rfl w3.heap.size (cellsI r) rfl rfl 44 (cellsI (List.replicate 24 0)) HK.out.1 (by rw [HZ.out]; exact info24) (by rw [HZ.out]; rfl) (cellsI_one _) HK.out.2 (Nat.le_refl _) ?_; intro w4 k4 b4; have K4 := hide k4; have O4 := hide (own_below O3.out b4); have B4 := hide (B3.out.trans (b4.mono B3.out.size)); clear k4 b4) | (refine wpList_load_row rfl 44 _ rfl w3.heap.size rfl 44 (cellsI r) (0, 0) _ K4.out Tryd.underlying44 rfl (by rw [HZ.out]; exact info24) ?_) | (refine wpList_build1 rfl 27 44 _ rfl (cellsI r) rfl i0 _ Tryd.underlying27 hi hz0 (by rw [hz1, HZ.out]) (by rw [HZ.out]; omega) (by rw [HZ.out]; omega) ?_) | (at_builtin; refine append_fresh _ rfl (.tmp 32) (.tmp 34) 27 rfl w.heap.size 44 i0 (.agg (cellsI (List.replicate 24 0))) 24 192 Tryd.underlying27 hi hz0 hz1 hz2 rfl (by decide) _ _ _ rfl (O4.out.alloc _) ⟨w4.heap.size, 0, none⟩ 1 1 (r.map (Value.int .i64)) rfl (by rw [List.length_map, HN.out]) (cells_new w4 r _) (ints_oneCell _ _) (by omega) (by unfold maxLen; omega) (by omega) (by have := B4.out.size; simp; omega) ?_; intro v7 w7 o7 g7 f7; have O7 := hide o7; have G7 := hide g7; clear o7 g7 f7))
          have HW := hide (show w7.ownsRow w.heap.size 44 24 v7 (k + 1) ((readZ zs (List.range (k + 1))).map (Value.int .i64)) ∧ Below w.heap.size w w7 from by
            have hs4 := B4.out.size
            refine ⟨?_, (B4.out.alloc hs4 _).grown G7.out (by simp; omega) (fun r h => (O4.out.lt r h).1)⟩
            rw [HSn.out, List.map_append]
            exact O7.out)
          go_roundw
          case rel => exact ⟨k + 1, by omega, by go_num, HW.out.1, HOk2.out, HW.out.2⟩
          case measure => simp [intOf]; omega
        · have hcb : (cd != 0) = true := by simpa using hcd
          have HNo := hide (show okDT zs = false from by rw [HOk.out, HBad.out hcd, Bool.false_and])
          go_wp2_with (first | (refine wpList_store_new w3.heap.size w3 rfl 44 _ _ rfl w3.heap.size (cellsI r) rfl rfl 44 (cellsI (List.replicate 24 0)) HK.out.1 (by rw [HZ.out]; exact info24) (by rw [HZ.out]; rfl) (cellsI_one _) HK.out.2 (Nat.le_refl _) ?_; intro w4 k4 b4; have B4 := hide (B3.out.trans (b4.mono B3.out.size)); clear k4 b4))
          go_ret2
          rw [(okDT_not HNo.out).1, (okDT_not HNo.out).2.1, (okDT_not HNo.out).2.2]
          exact ⟨_, rfl, World.ownsRow_nil _ _ _ _, B4.out⟩
      · have hkN : k = N := by omega
        subst hkN
        clear hb1
        have HRows := hide (show readZ zs (List.range k) = rowsDT zs from by unfold rowsDT; rw [HNum.out])
        rw [HRows.out] at HOw
        have HLen := hide (show (rowsDT zs).length = k * 24 from by rw [rowsDT_len, HNum.out])
        have HOk2 := hide (show okDT zs = (okTab (rowsDT zs) k && decide (k = tabN (rowsDT zs) k)) from by rw [HOk.out, HRk.out, Bool.true_and])
        go_wp2_with (go_at_call 7; fail)
        refine (specTab_any _ k (rowsDT zs) _ (RdT.own HOw.out)).mono ?_
        rintro e w5 ⟨v5, rfl, o5, b5⟩
        obtain ⟨a5, c5, rfl⟩ := ownT_shape o5
        have O5 := hide (own_below HOw.out b5)
        have B5 := hide (HB.out.trans (b5.mono HB.out.size))
        clear o5 b5 HOw HB
        cases hot : okTab (rowsDT zs) k with
        | false =>
          have HNo := hide (show okDT zs = false from by rw [HOk2.out, hot, Bool.false_and])
          rw [(codeTab_not hot).1]
          clear hot
          go_wp2
          go_ret2
          rw [(okDT_not HNo.out).1, (okDT_not HNo.out).2.1, (okDT_not HNo.out).2.2]
          exact ⟨_, rfl, World.ownsRow_nil _ _ _ _, B5.out⟩
        | true =>
          have hel := enc_num (rowsDT zs) k HLen.out hot
          rw [show codeTab (rowsDT zs) k = 0 from by unfold codeTab; rw [if_pos hot], hel]
          have HOt := hide hot
          clear hot
          by_cases hqq : tabN (rowsDT zs) k = k
          · have HYes := hide (show okDT zs = true from by rw [HOk2.out, HOt.out, Bool.true_and]; simpa using hqq.symm)
            rw [hqq]
            clear hqq hel
            go_wp2
            go_ret2
            rw [(okDT_yes HYes.out).1, (okDT_yes HYes.out).2.1, (okDT_yes HYes.out).2.2, HNum.out]
            exact ⟨_, rfl, O5.out, B5.out⟩
          · have HNo := hide (show okDT zs = false from by rw [HOk2.out, HOt.out, Bool.true_and]; simpa using fun h => hqq h.symm)
            have hne : ((tabN (rowsDT zs) k * 128 : Nat) : Int) ≠ ((k * 128 : Nat) : Int) := by omega
            have hnb : (((tabN (rowsDT zs) k * 128 : Nat) : Int) != ((k * 128 : Nat) : Int)) = true := by simpa using hne
            generalize tabN (rowsDT zs) k = T at hne hnb hqq ⊢
            have hnb2 : (((T : Int) * 128) != ((k : Int) * 128)) = true := by simp; omega
            go_wp2
            go_ret2
            rw [(okDT_not HNo.out).1, (okDT_not HNo.out).2.1, (okDT_not HNo.out).2.2]
            exact ⟨_, rfl, World.ownsRow_nil _ _ _ _, B5.out⟩
end Go.Proofs.YtelcphnlkdffbaaDoor

namespace Go.Proofs.YtelcphnlkdffbaaDoor
set_option linter.unusedVariables false
set_option linter.unusedSimpArgs false
open Go.RowKit

/-- Of the N cells of block g the first m are marked from 1 on, the others are as they were; since W0 nothing else that was there has turned. -/
def MkT (W0 w : World) (g N m : Nat) (zs : List Int) : Prop :=
  (∀ i, i < N → w.cell? ⟨g, i, none⟩ = some (.int .i64 (if i < m then 1 + (i : Int) else zs.getD i 0))) ∧ (∀ i, w.frozen? ⟨g, i, none⟩ = false) ∧ W0.grownBy w (some g)
theorem MkT.step {W0 w : World} {g N m : Nat} {zs : List Int} (h : MkT W0 w g N m zs) (hg : g < W0.heap.size) (hm : m < N) : MkT W0 (w.setCell ⟨g, m, none⟩ (.int .i64 (1 + (m : Int)))) g N (m + 1) zs := by
  refine ⟨fun i hi => ?_, fun i => by rw [World.frozen?_setCell]; exact h.2.1 i, grownBy_trans h.2.2 ⟨rfl, rfl, rfl, by simp, fun k hk hn => Below.heap_setCell w _ _ k (fun h => hn (by rw [h]))⟩⟩
  by_cases e : i = m
  · subst e
    rw [World.cell?_setCell_same _ _ _ (h.1 i hi), if_pos (by omega)]
  · rw [World.cell?_setCell_other _ _ _ _ (by intro q; injection q with q1 q2; exact e q2.symm), h.1 i hi]
    by_cases hl : i < m
    · rw [if_pos hl, if_pos (by omega)]
    · rw [if_neg hl, if_neg (by omega)]
section
variable {P : Program}
theorem wpList_mark {ops : Array Oper} {rest : List Oper} {o : Oper} {a : Act} {w : World} {Q : Exit → Act → World → Prop} {W0 : World} {g N m : Nat} {zs : List Int} (hM : MkT W0 w g N m zs) (hgd : o.guard = none) (ty : TypeId) (x y : Operand) (ho : o.op = .store ty x y)
    (q : Nat) (hx : a.eval x = .pointer (some ⟨g, q, none⟩)) (z : Int) (hy : a.eval y = .int .i64 z) (hi : (P.info? ty).map (·.size) = some 1) (hq : q = m) (hz : z = 1 + (m : Int)) (hg : g < W0.heap.size) (hm : m < N)
    (h : ∀ w2, MkT W0 w2 g N (m + 1) zs → wpList P ops Q rest (a.put o.dst undef) w2) : wpList P ops Q (o :: rest) a w := by
  subst hq hz
  refine wpList_plain hgd fun _ hK => ?_
  have hst : (storeVar ty ⟨g, q, none⟩ (.int .i64 (1 + (q : Int)))).run P w = .ok () (w.setCell ⟨g, q, none⟩ (.int .i64 (1 + (q : Int)))) := by
    have := run_storeCells_cells (P := P) g q [.int .i64 (1 + (q : Int))] 0 w (by intro j hj; simp at hj; subst hj; simp [hM.1 q hm]) (by intro j hj; simp at hj; subst hj; simpa using hM.2.1 q) (by intro v hv; simp at hv; subst hv; rfl)
    cases hq : P.info? ty with
    | none => simp [hq] at hi
    | some i =>
      have hs : i.size = 1 := by simpa [hq] using hi
      simp [World.setCells] at this
      simp [storeVar, sizeOf, typeInfo, hq, Value.cells, hs, this]
  unfold Oper.wp execOp
  simp only [ho, hx, hy, Instr.storeAt, Instr.sureAddr, Sem.run_bind, Sem.run_pure, Result.andThen_ok, hst]
  exact hK _ _ (h _ (hM.step hg hm))
end
theorem infoInt1 : (Tryd.prog.info? 3).map (·.size) = some 1 := by kernel_rfl
set_option maxRecDepth 100000 in
set_option maxHeartbeats 1000000 in
theorem markInodeS_any (v : Value) (base n : Nat) (zs : List Int) (w : World) (h : w.ownsRow base 44 24 v n (zs.map (Value.int .i64))) (hn : n ≤ 1048576) :
    Calls Tryd.prog 12 #[v, .int .i64 1] w fun e w' => e = .returned (.int .i64 (1 + ((n * 24 : Nat) : Int))) ∧ RdT w' v n ((List.range (n * 24)).map fun x : Nat => 1 + (x : Int)) ∧ w.grownBy w' v.ownBlock := by
  have hrd := RdT.own h
  rcases Nat.eq_zero_or_pos n with h0 | h0
  · subst h0
    obtain ⟨hz, a, cap, rfl, hc, hcap⟩ := hrd
    have HR := hide (show RdT w (.slice a 0 cap) 0 [] from ⟨rfl, a, cap, rfl, fun h => absurd h (by omega), hcap⟩)
    clear hc h
    go_enter Tryd.func12, Tryd.ntmps12
    go_wp2
    go_loop [1, 5] (fun kk ii => kk = .int .i64 1 ∧ ii = .int .i64 0) (fun _ _ => 0)
    case atStart => exact ⟨rfl, rfl⟩
    case round =>
      obtain ⟨rfl, rfl⟩ := hrel
      go_wp2
      go_ret
      exact ⟨rfl, HR.out, World.grownBy.refl _ _⟩
  · obtain ⟨_, h2⟩ := h
    rcases h2 with ⟨rfl, h2⟩ | ⟨g, cap, cur, rfl, hb, hg, hnc, hcm, hcs, htake⟩
    · omega
    · have hgl : g < w.heap.size := (Array.getElem?_eq_some_iff.1 hg).1
      have M0 := hide (show MkT w w g (n * 24) 0 zs from by
        obtain ⟨b, off, e, _, hc⟩ := (show ∃ b off, some (⟨g, 0, none⟩ : Addr) = some ⟨b, off, none⟩ ∧ b < w.heap.size ∧ ∀ i, i < n * 24 → w.cell? ⟨b, off + i, none⟩ = some (.int .i64 (zs.getD i 0)) from by
          obtain ⟨_, a', c', e, h2, _⟩ := hrd
          injection e with e1 e2 e3
          subst e1
          exact h2 h0)
        injection e with e
        injection e with e1 e2
        subst e1 e2
        exact ⟨fun i hi => by rw [if_neg (by omega)]; simpa using hc i hi, fun i => frozen_of_row w g i cur _ hg, World.grownBy.refl _ _⟩)
      clear hrd hb hg hcs htake
      go_enter Tryd.func12, Tryd.ntmps12
      go_wp2
      go_loopw [1, 5] (fun kk ii wr => ∃ i : Nat, i ≤ n ∧ ii = .int .i64 i ∧ kk = .int .i64 (1 + ((i * 24 : Nat) : Int)) ∧ MkT w wr g (n * 24) (i * 24) zs) (fun _ ii _ => n - (intOf ii).toNat)
      case atStart => exact ⟨0, by omega, rfl, rfl, by simpa using M0.out⟩
      case round =>
        clear M0
        obtain ⟨i, hi, rfl, rfl, hM⟩ := hrel
        have HM := hide hM
        clear hM
        by_cases hlt : i < n
        · go_wp2_with (first | (refine wpList_mark HM.out rfl 3 _ _ rfl _ rfl _ rfl infoInt1 (by omega) (by omega) hgl (by omega) ?_; intro w2 h2; have HM := hide h2; clear h2))
          have HM0 := hide (show MkT w w2 g (n * 24) (i * 24 + 10 + 0) zs from HM.out)
          go_loopw [1, 6] (fun kk jj wr => ∃ j : Nat, j ≤ 12 ∧ jj = .int .i64 j ∧ kk = .int .i64 (1 + ((i * 24 + 10 + j : Nat) : Int)) ∧ MkT w wr g (n * 24) (i * 24 + 10 + j) zs) (fun _ jj _ => 12 - (intOf jj).toNat)
          case atStart => exact ⟨0, by omega, rfl, by go_num, HM0.out⟩
          case round =>
            clear HM0
            obtain ⟨j, hj, rfl, rfl, hM⟩ := hrel
            have HM := hide hM
            clear hM
            by_cases hjt : j < 12
            · go_wp2_with (first | (refine wpList_mark HM.out rfl 3 _ _ rfl _ rfl _ rfl infoInt1 (by omega) (by omega) hgl (by omega) ?_; intro w2 h2; have HM := hide h2; clear h2))
              go_roundw
              case rel => exact ⟨j + 1, by omega, by go_num, by go_num, HM.out⟩
              case measure => simp [intOf]; omega
            · have hj12 : j = 12 := by omega
              subst hj12
              go_wp2_with (first | (refine wpList_mark HM.out rfl 3 _ _ rfl _ rfl _ rfl infoInt1 (by omega) (by omega) hgl (by omega) ?_; intro w2 h2; have HM := hide h2; clear h2))
              have HM2 := hide (show MkT w w2 g (n * 24) ((i + 1) * 24) zs from by
                have h := HM.out
                rw [show i * 24 + 10 + 12 + 1 + 1 = (i + 1) * 24 by omega] at h
                exact h)
              go_roundw
              case rel => exact ⟨i + 1, by omega, by go_num, by go_num, HM2.out⟩
              case measure => simp [intOf]; omega
        · have hin : i = n := by omega
          subst hin
          go_wp2
          go_ret
          refine ⟨by go_num, ⟨by simp, some ⟨g, 0, none⟩, cap, rfl, fun _ => ⟨g, 0, rfl, Nat.lt_of_lt_of_le hgl HM.out.2.2.size, fun x hx => ?_⟩, by omega, hcm⟩, HM.out.2.2⟩
          rw [Nat.zero_add, HM.out.1 x hx, if_pos hx]
          simp [List.getD, hx]
end Go.Proofs.YtelcphnlkdffbaaDoor

namespace Go.Proofs.YtelcphnlkdffbaaDoor
set_option linter.unusedVariables false
set_option linter.unusedSimpArgs false
open Go.RowKit

theorem marks_at {w : World} {b off N : Nat} (hc : ∀ i, i < N → w.cell? ⟨b, off + i, none⟩ = some (.int .i64 (((List.range N).map fun x : Nat => 1 + (x : Int)).getD i 0))) (q : Nat) (z : Int) (hq : q < N) (hz : z = 1 + (q : Int)) : w.cell? ⟨b, off + q, none⟩ = some (.int .i64 z) := by
  rw [hc q hq, hz]
  simp [List.getD, hq]
set_option maxRecDepth 100000 in
set_option maxHeartbeats 1000000 in
theorem heldInodeS_any (v : Value) (n : Nat) (w : World) (h : RdT w v n ((List.range (n * 24)).map fun x : Nat => 1 + (x : Int))) (hn : n ≤ 1048576) :
    Calls Tryd.prog 18 #[v, .int .i64 1] w fun e w' => e = .returned (.int .i64 (1 + ((n * 24 : Nat) : Int))) ∧ w' = w := by
  rcases h.parts with ⟨a, cap, rfl, hlow⟩ | ⟨b, off, cap, rfl, hbw, hcell⟩
  · have hn0 : n = 0 := by omega
    subst hn0
    clear h
    go_enter Tryd.func18, Tryd.ntmps18
    go_wp2
    go_loop [1, 5] (fun kk ii => kk = .int .i64 1 ∧ ii = .int .i64 0) (fun _ _ => 0)
    case atStart => exact ⟨rfl, rfl⟩
    case round =>
      obtain ⟨rfl, rfl⟩ := hrel
      go_wp2
      go_ret
      exact ⟨rfl, rfl⟩
  · have HC := hide hcell
    clear h hcell
    go_enter Tryd.func18, Tryd.ntmps18
    go_wp2
    go_loop [1, 5] (fun kk ii => ∃ i : Nat, i ≤ n ∧ ii = .int .i64 i ∧ kk = .int .i64 (1 + ((i * 24 : Nat) : Int))) (fun _ ii => n - (intOf ii).toNat)
    case atStart => exact ⟨0, by omega, rfl, rfl⟩
    case round =>
      obtain ⟨i, hi, rfl, rfl⟩ := hrel
      by_cases hlt : i < n
      · obtain ⟨K, hK⟩ : ∃ K, K = 1 + ((i * 24 : Nat) : Int) := ⟨_, rfl⟩
        have c0 := marks_at HC.out (i * 24) K (by omega) (by omega)
        have c1 := marks_at HC.out (i * 24 + 1) (K + 1) (by omega) (by omega)
        have c2 := marks_at HC.out (i * 24 + 2) (K + 1 + 1) (by omega) (by omega)
        have c3 := marks_at HC.out (i * 24 + 3) (K + 1 + 1 + 1) (by omega) (by omega)
        have c4 := marks_at HC.out (i * 24 + 4) (K + 1 + 1 + 1 + 1) (by omega) (by omega)
        have c5 := marks_at HC.out (i * 24 + 5) (K + 1 + 1 + 1 + 1 + 1) (by omega) (by omega)
        have c6 := marks_at HC.out (i * 24 + 6) (K + 1 + 1 + 1 + 1 + 1 + 1) (by omega) (by omega)
        have c7 := marks_at HC.out (i * 24 + 7) (K + 1 + 1 + 1 + 1 + 1 + 1 + 1) (by omega) (by omega)
        have c8 := marks_at HC.out (i * 24 + 8) (K + 1 + 1 + 1 + 1 + 1 + 1 + 1 + 1) (by omega) (by omega)
        have c9 := marks_at HC.out (i * 24 + 9) (K + 1 + 1 + 1 + 1 + 1 + 1 + 1 + 1 + 1) (by omega) (by omega)
        rw [← Nat.add_assoc] at c1
        rw [← Nat.add_assoc] at c2
        rw [← Nat.add_assoc] at c3
        rw [← Nat.add_assoc] at c4
        rw [← Nat.add_assoc] at c5
        rw [← Nat.add_assoc] at c6
        rw [← Nat.add_assoc] at c7
        rw [← Nat.add_assoc] at c8
        rw [← Nat.add_assoc] at c9
        rw [← hK]
        have hK1 : 0 ≤ K ∧ K ≤ 1000000000 := by omega
        have HK := hide hK
        clear hK
        go_wp2
        go_loop [1, 6] (fun kk jj => ∃ j : Nat, j ≤ 12 ∧ jj = .int .i64 j ∧ kk = .int .i64 (1 + ((i * 24 + 10 + j : Nat) : Int))) (fun _ jj => 12 - (intOf jj).toNat)
        case atStart => exact ⟨0, by omega, rfl, by have := HK.out; go_num⟩
        case round =>
          obtain ⟨j, hj, rfl, rfl⟩ := hrel
          clear c0
          clear c1
          clear c2
          clear c3
          clear c4
          clear c5
          clear c6
          clear c7
          clear c8
          clear c9
          by_cases hjt : j < 12
          · obtain ⟨J, hJ⟩ : ∃ J, J = 1 + ((i * 24 + 10 + j : Nat) : Int) := ⟨_, rfl⟩
            have c := marks_at HC.out (i * 24 + 10 + j) J (by omega) hJ
            rw [← Nat.add_assoc, ← Nat.add_assoc] at c
            rw [← hJ]
            have hJ1 : 0 ≤ J ∧ J ≤ 1000000000 := by omega
            have HJ := hide hJ
            clear hJ
            go_wp2
            go_round
            case rel => exact ⟨j + 1, by omega, by go_num, by have := HJ.out; go_num⟩
            case measure => simp [intOf]; omega
          · have hj12 : j = 12 := by omega
            subst hj12
            obtain ⟨J, hJ⟩ : ∃ J, J = 1 + ((i * 24 + 10 + 12 : Nat) : Int) := ⟨_, rfl⟩
            have c22 := marks_at HC.out (i * 24 + 22) J (by omega) (by omega)
            have c23 := marks_at HC.out (i * 24 + 23) (J + 1) (by omega) (by omega)
            rw [← Nat.add_assoc] at c22 c23
            rw [← hJ]
            have hJ1 : 0 ≤ J ∧ J ≤ 1000000000 := by omega
            have HJ := hide hJ
            clear hJ
            go_wp2
            go_round
            case rel => exact ⟨i + 1, by omega, by go_num, by have := HJ.out; go_num⟩
            case measure => simp [intOf]; omega
      · have hin : i = n := by omega
        subst hin
        go_wp2
        go_ret
        exact ⟨by go_num, rfl⟩
end Go.Proofs.YtelcphnlkdffbaaDoor

namespace Go.Proofs.YtelcphnlkdffbaaDoor
set_option linter.unusedVariables false
set_option linter.unusedSimpArgs false
open Go.RowKit

theorem cntDT_le (zs : List Int) : cntDT zs ≤ 1001 := by
  unfold cntDT
  split
  · rename_i h
    unfold okDT at h
    simp only [Bool.and_eq_true, decide_eq_true_eq] at h
    exact numDT_le h.1.1
  · omega
set_option maxRecDepth 100000 in
set_option maxHeartbeats 2000000 in
theorem lawDecT (v0 : Value) (ws : List Int) (w : World) (h : Rd .u8 w v0 ws) (hbd : ∀ z ∈ ws, 0 ≤ z ∧ z < 256) (hg : ErrT w) :
    Calls Tryd.prog 4 #[v0] w fun e w' => e = .returned (.bool true) ∧ Below w.heap.size w w' := by
  have hm := h.len
  unfold maxLen at hm
  have hsh : ∃ a cap, v0 = .slice a ws.length cap := by obtain ⟨a, cap, h1, _⟩ := h; exact ⟨a, cap, h1⟩
  obtain ⟨a0, cap0, rfl⟩ := hsh
  have H := hide (And.intro h hg)
  have HB := hide hbd
  clear h hg hbd
  by_cases hbig : (1048576 : Int) < (ws.length : Int)
  · go_enter Tryd.func4, Tryd.ntmps4
    go_wp2
    go_ret
    exact ⟨rfl, Below.refl _ _⟩
  · have hsm : ws.length ≤ 1048576 := by omega
    clear hbig
    have HS := hide (fun (v : Value) (w : World) (hr : Rd .u8 w v ws) => specDT_any v ws w hr HB.out (by omega))
    have HI := hide (fun (v : Value) (w : World) (hr : Rd .u8 w v ws) (hg : ErrT w) => implDT_any v ws w hr HB.out (by omega) hg)
    have hcl := cntDT_le ws
    generalize cntDT ws = N at HS HI hcl
    generalize decDT ws = Z at HS HI
    generalize codeDT ws = c at HS HI
    have hcc : (c != c) = false := by simp
    go_enter Tryd.func4, Tryd.ntmps4
    go_wp2_with fail
    refine (toByteS_any _ ws _ H.out.1 (by omega)).mono ?_
    rintro e w1 ⟨v1, rfl, o1, b1⟩
    have R1 := hide (Rd.own o1)
    have B1 := hide b1
    clear o1 b1
    go_wp2_with fail
    refine (HS.out v1 _ R1.out).mono ?_
    rintro e w2 ⟨v2, rfl, o2, b2⟩
    have O2 := hide o2
    have B2 := hide (B1.out.trans (b2.mono B1.out.size))
    clear o2 b2 R1 B1
    go_wp2_with fail
    refine (toByteS_any _ ws _ (H.out.1.below B2.out) (by omega)).mono ?_
    rintro e w3 ⟨x0, rfl, o3, b3⟩
    have X3 := hide o3
    have O3 := hide (own_below O2.out b3)
    have B3 := hide (B2.out.trans (b3.mono B2.out.size))
    have L2 := hide (fun k hk => (O2.out.lt k hk).2)
    have hs23 := b3.size
    have hsw2 := B2.out.size
    clear o3 b3 O2 B2
    go_wp2_with fail
    refine (HI.out x0 _ (Rd.own X3.out) (H.out.2.below B3.out)).mono ?_
    rintro e w4 ⟨g0, rfl, o4, b4⟩
    have G4 := hide o4
    have L3 := hide (fun k hk => (X3.out.lt k hk))
    have X4 := hide (own_below X3.out b4)
    have O4 := hide (own_below O3.out b4)
    have B4 := hide (B3.out.trans (b4.mono B3.out.size))
    have hsw3 := B3.out.size
    clear o4 b4 O3 X3 B3
    go_wp2_with fail
    refine (eqInodeS_same g0 v2 N Z _ (RdT.own G4.out) (RdT.own O4.out)).mono ?_
    rintro e w5 ⟨rfl, b5⟩
    have G5 := hide (own_below G4.out b5)
    have O5 := hide (own_below O4.out b5)
    have X5 := hide (own_below X4.out b5)
    have B5 := hide (B4.out.trans (b5.mono B4.out.size))
    clear b5 G4 O4 X4 B4
    go_wp2_with fail
    refine (toByteS_any _ ws _ (H.out.1.below B5.out) (by omega)).mono ?_
    rintro e w6 ⟨v6, rfl, o6, b6⟩
    have R6 := hide (Rd.own o6)
    have G6 := hide (own_below G5.out b6)
    have O6 := hide (own_below O5.out b6)
    have X6 := hide (own_below X5.out b6)
    have B6 := hide (B5.out.trans (b6.mono B5.out.size))
    clear o6 b6 G5 O5 X5 B5
    go_wp2_with fail
    refine (eqByteS_same x0 v6 ws _ (Rd.own X6.out) R6.out).mono ?_
    rintro e w7 ⟨rfl, b7⟩
    have G7 := hide (own_below G6.out b7)
    have O7 := hide (own_below O6.out b7)
    have X7 := hide (own_below X6.out b7)
    have B7 := hide (B6.out.trans (b7.mono B6.out.size))
    clear b7 G6 O6 X6 B6 R6
    go_wp2_with fail
    refine (markByteS_any x0 w2.heap.size ws.length 1 _ _ X7.out (by omega) (by omega)).mono ?_
    rintro e w8 ⟨rfl, o8, g8⟩
    have G8 := hide (G7.out.kept g8 (apart w3.heap.size (fun k hk => (G7.out.lt k hk).1) (fun k hk => (L3.out k hk).2)))
    have O8 := hide (O7.out.kept g8 (apart' w2.heap.size L2.out (fun k hk => (L3.out k hk).1)))
    have B8 := hide (B7.out.grown g8 B7.out.size (fun k hk => Nat.le_trans (by omega) (L3.out k hk).1))
    clear o8 g8 G7 O7 X7 B7
    have hkk : ¬ (((1 + ws.length : Nat) : Int)) < 0 := by omega
    have hkk2 : ¬ (1 + (ws.length : Int)) < 0 := by omega
    go_wp2_with fail
    refine (eqInodeS_same g0 v2 N Z _ (RdT.own G8.out) (RdT.own O8.out)).mono ?_
    rintro e w9 ⟨rfl, b9⟩
    have G9 := hide (own_below G8.out b9)
    have O9 := hide (own_below O8.out b9)
    have B9 := hide (B8.out.trans (b9.mono B8.out.size))
    clear b9 G8 O8 B8
    go_wp2_with fail
    refine (markInodeS_any g0 _ N Z _ G9.out (by omega)).mono ?_
    rintro e w10 ⟨rfl, r10, g10⟩
    have G10 := hide r10
    have O10 := hide (O9.out.kept g10 (apart' w3.heap.size (fun k hk => Nat.lt_of_lt_of_le (L2.out k hk) hs23) (fun k hk => (G9.out.lt k hk).1)))
    have B10 := hide (B9.out.grown g10 B9.out.size (fun k hk => Nat.le_trans hsw3 (G9.out.lt k hk).1))
    clear r10 g10 G9 O9 B9
    have hm1 : ¬ (1 + ((N * 24 : Nat) : Int)) < 0 := by omega
    have hm2 : ¬ (1 + (N : Int) * 24) < 0 := by omega
    go_wp2_with fail
    refine (heldInodeS_any g0 N _ G10.out (by omega)).mono ?_
    rintro e wq ⟨rfl, hwq⟩
    rw [hwq]
    clear hwq
    go_wp2_with fail
    refine (toByteS_any _ ws _ (H.out.1.below B10.out) (by omega)).mono ?_
    rintro e w11 ⟨v11, rfl, o11, b11⟩
    have R11 := hide (Rd.own o11)
    have G11 := hide (G10.out.below b11)
    have O11 := hide (own_below O10.out b11)
    have B11 := hide (B10.out.trans (b11.mono B10.out.size))
    clear o11 b11 G10 O10 B10
    go_wp2_with fail
    refine (HI.out v11 _ R11.out (H.out.2.below B11.out)).mono ?_
    rintro e w12 ⟨h0, rfl, o12, b12⟩
    have H12 := hide (RdT.own o12)
    have G12 := hide (G11.out.below b12)
    have O12 := hide (own_below O11.out b12)
    have B12 := hide (B11.out.trans (b12.mono B11.out.size))
    clear o12 b12 G11 O11 B11 R11
    go_wp2_with fail
    refine (eqInodeS_same h0 v2 N Z _ H12.out (RdT.own O12.out)).mono ?_
    rintro e w13 ⟨rfl, b13⟩
    have G13 := hide (G12.out.below b13)
    have B13 := hide (B12.out.trans (b13.mono B12.out.size))
    clear b13 G12 O12 B12 H12
    go_wp2_with fail
    refine (heldInodeS_any g0 N _ G13.out (by omega)).mono ?_
    rintro e wq ⟨rfl, hwq⟩
    rw [hwq]
    clear hwq
    go_wp2
    go_ret
    exact ⟨rfl, B13.out⟩
end Go.Proofs.YtelcphnlkdffbaaDoor
