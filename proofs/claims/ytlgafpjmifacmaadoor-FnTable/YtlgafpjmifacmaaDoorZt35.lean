/- The program's readTable: inodes read piece by piece. -/
import Derived.Test.YtlgafpjmifacmaaDoorZt08
import Derived.Test.YtlgafpjmifacmaaDoorZt29
import Derived.Test.YtlgafpjmifacmaaDoorZt34
namespace Go.Proofs.YtlgafpjmifacmaaDoor
set_option linter.unusedVariables false
set_option linter.unusedSimpArgs false
open Go.RowKit Go.Shelf
attribute [local go_sem] Oper.semAt_some

/-- Piece k of the bytes. -/
def pieceB (zs : List Int) (c k : Nat) : List Int := (zs.drop (k * c)).take c
theorem pieceB_len (zs : List Int) (c k : Nat) : (pieceB zs c k).length = min c (zs.length - k * c) := by simp [pieceB]
theorem pieceB_bd {zs : List Int} (h : ∀ z ∈ zs, 0 ≤ z ∧ z < 256) (c k : Nat) : ∀ z ∈ pieceB zs c k, 0 ≤ z ∧ z < 256 := fun z hz => h z (List.mem_of_mem_drop (List.mem_of_mem_take hz))
theorem Rd.piece {w : World} {b off c k : Nat} {zs : List Int} (hb : b < w.heap.size) (hc : c ≤ 1000) (hcell : ∀ i, i < zs.length → w.cell? ⟨b, off + i, none⟩ = some (.int .u8 (zs.getD i 0))) : Rd .u8 w (pieceV b off zs.length c k) (pieceB zs c k) := by
  have hl := pieceB_len zs c k
  refine ⟨_, _, by rw [hl]; rfl, by rw [hl]; unfold maxLen; omega, fun _ => ⟨b, off + k * c, rfl, hb, fun i hi => ?_⟩, by rw [hl]; exact Nat.le_refl _, by unfold maxLen; omega⟩
  rw [hl] at hi
  rw [Nat.add_assoc, hcell (k * c + i) (by omega)]
  simp [pieceB, List.getD, show i < c by omega]
/-- The integers of the inodes that the pieces ks tell, and whether all are right. -/
def readZ (zs : List Int) (ks : List Nat) : List Int := (ks.map fun k => decI (pieceB zs 128 k)).flatten
def readOk (zs : List Int) (ks : List Nat) : Bool := ks.all fun k => codeDI (pieceB zs 128 k) == 0
theorem decI_len (zs : List Int) : (decI zs).length = 24 := by
  obtain ⟨k0, k1, k2, k3, k4, k5, k6, k7, k8, s, ds, p, q, hd, e⟩ := decI_ino zs
  rw [e]; exact inoI_len _ _ _ _ _ rfl hd
theorem readZ_len (zs : List Int) : ∀ ks, (readZ zs ks).length = ks.length * 24
  | [] => rfl
  | k :: ks => by
    have ih := readZ_len zs ks
    unfold readZ at ih ⊢
    rw [List.map_cons, List.flatten_cons, List.length_append, decI_len, ih, List.length_cons]
    omega
theorem readZ_snoc (zs : List Int) (ks : List Nat) (k : Nat) : readZ zs (ks ++ [k]) = readZ zs ks ++ decI (pieceB zs 128 k) := by
  unfold readZ; simp
theorem readOk_snoc (zs : List Int) (ks : List Nat) (k : Nat) : readOk zs (ks ++ [k]) = (readOk zs ks && (codeDI (pieceB zs 128 k) == 0)) := by
  unfold readOk; simp

/-- Kept behind what leaves every cell of a chain as it is. -/
theorem Ck.keepC {w w' : World} {b lo : Nat} {code : Int} {ok : Bool} (h : Ck w b lo code ok) (hb : w'.heap[b]? = w.heap[b]?) (hk : ∀ k o v, lo ≤ k → w.cell? ⟨k, o, none⟩ = some v → w'.cell? ⟨k, o, none⟩ = some v) : Ck w' b lo code ok := by
  obtain ⟨h1, h2, ev, h3, h4⟩ := h
  refine ⟨(World.cell?_of_block (a := ⟨b, 0, none⟩) hb).trans h1, (World.frozen?_of_block (a := ⟨b, 1, none⟩) hb).trans h2, ev, (World.cell?_of_block (a := ⟨b, 1, none⟩) hb).trans h3, ?_⟩
  rcases h4 with h4 | ⟨h4, n, h5⟩
  · exact .inl h4
  · exact .inr ⟨h4, n, h5.keep hk⟩
theorem boxT_below {W W' : World} {B D : Nat} {t : TypeId} {v : Value} (h : Boxed W B t v) (hb : Below D W W') (hB : B < D) : Boxed W' B t v := (hb.block B hB).trans h
theorem boxT_tch {W W' : World} {B b : Nat} {t : TypeId} {v : Value} (h : Boxed W B t v) (hb : Tch b W W') (hB : B ≠ b) : Boxed W' B t v := (hb.1.block B h.lt (by simp; omega)).trans h
theorem cells_new (w : World) (r : List Int) (t : TypeId) : ∀ j u, (r.map (Value.int .i64))[j]? = some u → (w.alloc (.cells (cellsI r) t)).cell? ((⟨w.heap.size, 0, none⟩ : Addr).add j) = some u := by
  intro j u hj
  rw [Addr.add_mid, (Blk.new w (cellsI r) t).cell (0 + j), Nat.zero_add]
  simpa [cellsI] using hj
theorem ownT_shape {w : World} {base : Nat} {e : TypeId} {v : Value} {n sz : Nat} {xs : List Value} (h : w.ownsRow base e sz v n xs) : ∃ a cap, v = .slice a n cap := by
  rcases h.2 with ⟨rfl, rfl⟩ | ⟨g, cap, _, rfl, _⟩
  · exact ⟨_, _, rfl⟩
  · exact ⟨_, _, rfl⟩
theorem FaultIs.putObj {W : World} {lo : Nat} {ok : Bool} {ev : Value} {code : Int} {D : Nat} {o o' : Obj} (h : FaultIs W lo ok ev code) (hD : W.heap[D]? = some o) (ho : o.isCells = false) : FaultIs (W.drew.putObj D o') lo ok ev code := by
  rcases h with h | ⟨h, m, h2⟩
  · exact .inl h
  · refine .inr ⟨h, m, h2.keep fun k q v hk hc => ?_⟩
    have hne : k ≠ D := by
      intro e
      subst e
      unfold World.cell? at hc
      rw [hD] at hc
      cases o <;> simp_all [Obj.isCells]
    exact (World.cell?_of_block (a := ⟨k, q, none⟩) (show (W.drew.putObj D o').heap[k]? = W.heap[k]? from World.putObj_heap_other hne)).trans hc
/-- Between two rounds: the inodes that were read, the check, the boxes that the iterator reads. -/
structure Itb (zs : List Int) (w : World) (g lb : Nat) (sv : Value) (pre : List Nat) (W : World) : Prop where
  row : ∃ v, Boxed W lb 27 v ∧ W.ownsRow (w.heap.size + 1) 44 24 v pre.length ((readZ zs pre).map (Value.int .i64)) ∧ (v = .slice (some ⟨g, 0, none⟩) pre.length (zs.length / 128) ∨ zs.length / 128 < pre.length)
  ck : Ck W w.heap.size (lb + 3) 21 (readOk zs pre)
  bx1 : Boxed W (lb + 1) 24 sv
  bx2 : Boxed W (lb + 2) 3 (.int .i64 ((128 : Nat) : Int))
  old : Below w.heap.size w W
  size : lb + 3 ≤ W.heap.size
theorem Itb.own {zs : List Int} {w : World} {g lb : Nat} {sv : Value} (hl : w.heap.size + 1 ≤ lb) : OwnFrom (lb + 3) (Itb zs w g lb sv) := by
  intro pre X Y row hs hg hr
  have hb : ∀ {B : Nat} {t : TypeId} {v : Value}, B < lb + 3 → Boxed X B t v → Boxed Y B t v := fun hB h => h.kept hg (fun e => by have := (hr _ e.symm).1; omega)
  obtain ⟨v, hv, hrow, hsh⟩ := hs.row
  refine ⟨⟨v, hb (by omega) hv, hrow.kept hg ?_, hsh⟩, hs.ck.keepC (hg.block _ (by have := hs.ck.lt; omega) (fun e => by have := (hr _ e.symm).1; omega)) ?_, hb (by omega) hs.bx1, hb (by omega) hs.bx2, ?_, Nat.le_trans hs.size hg.size⟩
  · rcases hrow.2 with ⟨rfl, _⟩ | ⟨g, cap, cur, rfl, _, hgb, _⟩
    · exact .inl rfl
    · refine .inr fun e' => ?_
      obtain ⟨_, o, ho, hc⟩ := hr g (by simpa [Value.ownBlock] using e'.symm)
      rw [hgb] at ho; cases ho; cases hc
  · intro k o v hk hc
    have hlt := cell_lt hc
    refine (World.cell?_of_block (a := ⟨k, o, none⟩) (hg.block k hlt (fun e => ?_))).trans hc
    obtain ⟨_, ob, ho, hcc⟩ := hr k e.symm
    unfold World.cell? at hc
    rw [ho] at hc
    cases ob <;> simp_all [Obj.isCells]
  · exact hs.old.grown hg hs.old.size (fun k e => by have := (hr k e).1; omega)

theorem Itb.next {zs : List Int} {w : World} {g lb : Nat} {sv : Value} {pre : List Nat} {x : Nat} {W w4 w5 w6 : World} {v v' : Value} {ok : Bool} (hI : Itb zs w g lb sv pre W) (hg1 : w.heap.size + 1 ≤ g) (hg2 : g < lb) (hB4 : Below W.heap.size W w4)
    (hc5 : Ck w5 w.heap.size (lb + 3) 21 ok) (ht5 : Tch w.heap.size w4 w5) (hk : ok = readOk zs (pre ++ [x])) (hV : Boxed w5 lb 27 v) (tmp : Obj) (hg6 : (w5.alloc tmp).grownBy w6 (some g))
    (o6 : w6.ownsRow (w.heap.size + 1) 44 24 v' (pre ++ [x]).length ((readZ zs (pre ++ [x])).map (Value.int .i64))) (hne : some lb ≠ v'.ownBlock) (hsh : v' = .slice (some ⟨g, 0, none⟩) (pre ++ [x]).length (zs.length / 128) ∨ zs.length / 128 < (pre ++ [x]).length) :
    KeepsFrom (lb + 3) W (w6.setCell ⟨lb, 0, none⟩ v') ∧ Kc w.heap.size (lb + 1) (lb + 2) W (w6.setCell ⟨lb, 0, none⟩ v') ∧ Itb zs w g lb sv (pre ++ [x]) (w6.setCell ⟨lb, 0, none⟩ v') := by
  have h1 := hI.size
  have h4 := hB4.size
  have h5 := ht5.1.size
  have h6 := hg6.size
  rw [World.size_alloc] at h6
  have hY : (w6.setCell ⟨lb, 0, none⟩ v').heap.size = w6.heap.size := by simp
  have hblk : ∀ k, k < W.heap.size → k ≠ w.heap.size → k ≠ lb → k ≠ g → (w6.setCell ⟨lb, 0, none⟩ v').heap[k]? = W.heap[k]? := by
    intro k hk1 hk2 hk3 hk4
    rw [Below.heap_setCell w6 ⟨lb, 0, none⟩ v' k (fun h => hk3 h), hg6.block k (by rw [World.size_alloc]; omega) (by simp; omega), Below.heap_alloc w5 tmp k (by omega), ht5.1.block k (by omega) (by simp; omega), hB4.block k hk1]
  have hBw : ∀ {U : World}, Below w.heap.size U W → Below w.heap.size U (w6.setCell ⟨lb, 0, none⟩ v') := fun {U} h =>
    ((((h.trans (hB4.mono (by omega))).grown ht5.1 (by omega) (fun k e => by cases e; omega)).alloc (by omega) tmp).grown hg6 (by rw [World.size_alloc]; omega) (fun k e => by cases e; omega)).setCell (p := ⟨lb, 0, none⟩) (by show w.heap.size ≤ lb; omega) v'
  have V6 := (hV.alloc tmp).kept hg6 (by simp; omega)
  refine ⟨⟨by omega, fun k o hB hk' ho => (hblk k (Array.getElem?_eq_some_iff.1 hk').1 (by omega) (by omega) (by omega)).trans hk'⟩, ⟨hBw (Below.refl _ _), hblk _ (by omega) (by omega) (by omega) (by omega), hblk _ (by omega) (by omega) (by omega) (by omega)⟩, ?_⟩
  refine ⟨⟨v', V6.set v', o6.kept (grownBy_setCell' w6 lb v') (.inr (fun e => hne e.symm)), hsh⟩, ?_, (hblk _ (by omega) (by omega) (by omega) (by omega)).trans hI.bx1, (hblk _ (by omega) (by omega) (by omega) (by omega)).trans hI.bx2, hBw hI.old, by omega⟩
  rw [← hk]
  have c6 := (hc5.below ((Below.refl _ _).alloc (Nat.le_refl _) tmp)).grown hg6 (by omega) (by omega)
  exact c6.grown (grownBy_setCell' w6 lb v') (by omega) (by omega)

set_option maxRecDepth 100000 in
set_option maxHeartbeats 2000000 in
theorem readTable_big (v : Value) (zs : List Int) (w : World) (h : Rd .u8 w v zs) (hbd : ∀ z ∈ zs, 0 ≤ z ∧ z < 256) (hz : zs.length ≤ 140737488355328) (hg : ErrT w) (hlen : ¬ zs.length ≤ 128128) :
    Calls Tryd.prog 34 #[v] w fun e w' => ∃ ev, e = .returned (.tuple #[.slice none 0 0, ev]) ∧ (∃ m, Flt w' w.heap.size m ev 21) ∧ Below w.heap.size w w' := by
  have hm := h.len
  unfold maxLen at hm
  have HG := hide (And.intro h (And.intro hbd hg))
  obtain ⟨a, cap, rfl, hshape⟩ := h
  have hcap := hshape.2.2
  have ha := hshape.2.1
  obtain ⟨i0, hi, hz0, hz1, hz2⟩ := info_parts infoT24
  have K0 := hide (And.intro (Ck.fresh w 21 63) ((Below.refl w.heap.size w).alloc (Nat.le_refl _) (.cells #[.int .i64 21, .nilIface] 63)))
  clear hshape hg hbd
  refine (callsIn_wide (n := 6)).1 ?_
  refine callsIn_of_wp_marks Tryd.func34 rfl trivial ?_ rfl
  simp only [Tryd.ntmps34, List.size_toArray, List.length_cons, List.length_nil, Nat.reduceAdd, Nat.reduceSub, Array.replicate_succ, Array.replicate_zero, List.push_toArray, List.append_toArray, List.nil_append, List.cons_append]
  have HA := hide ha
  clear ha
  gi_wp2_with (refine ⟨trivial, ?_⟩; gi_at_call 36; fail)
  refine ⟨trivial, ?_⟩
  refine (callsIn_wide.2 (need_any w.heap.size (w.heap.size + 1) _ 21 true _ _ K0.out.1 (by omega) (by simp))).mono ?_
  rintro e w1 ⟨rfl, hc1, ht1⟩
  rw [Bool.true_and] at hc1
  have K1 := hide (And.intro hc1 (show Below w.heap.size w w1 from K0.out.2.grown ht1.1 (by simp) (fun k e => by cases e; omega)))
  have hs1 : w.heap.size + 1 ≤ w1.heap.size := by have := ht1.1.size; simp at this; omega
  clear hc1 ht1 K0
  obtain ⟨e1, c1, hf1⟩ := K1.out.1.fault
  have hd : decide ((zs.length : Int) ≤ 128128) = false := by simp; omega
  rw [hd] at hf1 K1
  rcases hf1 with ⟨hf1, _⟩ | ⟨_, m, hf1⟩
  · cases hf1
  obtain ⟨t', x', rfl⟩ := hf1.iface
  have HF := hide hf1
  clear hf1
  have hmx : Tryd.prog.follows .mixedOrders = true := by kernel_rfl
  gi_wp2
  gi_region_o
  gi_wp2
  exact ⟨_, results_tmp2 rfl _ _ _, _, rfl, ⟨m, Flt.mono (lo' := w.heap.size) (by omega) (HF.out.below ((Below.refl _ _).drew))⟩, K1.out.2.drew⟩

set_option maxRecDepth 100000 in
set_option maxHeartbeats 2000000 in
theorem readTable_ok (v : Value) (zs : List Int) (w : World) (h : Rd .u8 w v zs) (hbd : ∀ z ∈ zs, 0 ≤ z ∧ z < 256) (hz : zs.length ≤ 140737488355328) (hg : ErrT w) (hlen : zs.length ≤ 128128) :
    Calls Tryd.prog 34 #[v] w fun e w' => ∃ v' ev, e = .returned (.tuple #[v', ev]) ∧ FaultIs w' w.heap.size (readOk zs (List.range (pcs zs.length 128))) ev 21 ∧
      w'.ownsRow w.heap.size 44 24 v' (pcs zs.length 128) ((readZ zs (List.range (pcs zs.length 128))).map (Value.int .i64)) ∧ Below w.heap.size w w' := by
  have hm := h.len
  unfold maxLen at hm
  have HG := hide (And.intro h (And.intro hbd hg))
  obtain ⟨a, cap, rfl, hshape⟩ := h
  have hcap := hshape.2.2
  have ha := hshape.2.1
  obtain ⟨i0, hi, hz0, hz1, hz2⟩ := info_parts infoT24
  have K0 := hide (And.intro (Ck.fresh w 21 63) ((Below.refl w.heap.size w).alloc (Nat.le_refl _) (.cells #[.int .i64 21, .nilIface] 63)))
  clear hshape hg hbd
  refine (callsIn_wide (n := 6)).1 ?_
  refine callsIn_of_wp_marks Tryd.func34 rfl trivial ?_ rfl
  simp only [Tryd.ntmps34, List.size_toArray, List.length_cons, List.length_nil, Nat.reduceAdd, Nat.reduceSub, Array.replicate_succ, Array.replicate_zero, List.push_toArray, List.append_toArray, List.nil_append, List.cons_append]
  have HA := hide ha
  clear ha
  gi_wp2_with (refine ⟨trivial, ?_⟩; gi_at_call 36; fail)
  refine ⟨trivial, ?_⟩
  refine (callsIn_wide.2 (need_any w.heap.size (w.heap.size + 1) _ 21 true _ _ K0.out.1 (by omega) (by simp))).mono ?_
  rintro e w1 ⟨rfl, hc1, ht1⟩
  rw [Bool.true_and] at hc1
  have K1 := hide (And.intro hc1 (show Below w.heap.size w w1 from K0.out.2.grown ht1.1 (by simp) (fun k e => by cases e; omega)))
  have hs1 : w.heap.size + 1 ≤ w1.heap.size := by have := ht1.1.size; simp at this; omega
  clear hc1 ht1 K0
  obtain ⟨e1, c1, hf1⟩ := K1.out.1.fault
  have hd : decide ((zs.length : Int) ≤ 128128) = true := by simp; omega
  rw [hd] at hf1 K1
  rcases hf1 with ⟨_, rfl⟩ | ⟨hf1, _⟩
  case inr => cases hf1
  gi_wp2_with (first | (refine wpListIn_make_own _ rfl _ _ 27 rfl (w.heap.size + 1) 44 i0 (.agg (cellsI (List.replicate 24 0))) 24 Tryd.underlying27 hi hz0 hz1 .i64 .i64 _ (zs.length / 128) rfl rfl (by go_num) (by rw [hz2]; omega) (by unfold maxLen; omega) hs1 ?_; intro w2 o2 g2; have O2 := hide o2; have G2 := hide g2; clear o2 g2) | (refine ⟨trivial, ?_⟩; gi_at_call 57; fail))
  refine ⟨trivial, ?_⟩
  refine (chunk_in _ 128 (by omega) (by omega) _ a zs.length cap).mono ?_
  rintro e w' ⟨rfl, rfl⟩
  gi_wp2
  have hs2 := G2.out.size
  have hgl : w1.heap.size < w2.heap.size := (O2.out.lt _ rfl).2
  obtain ⟨W1, hW1⟩ : ∃ W1, W1 = (((w2.alloc (.cells #[.slice (some ⟨w1.heap.size, 0, none⟩) 0 (zs.length / 128)] 27)).alloc (.cells #[.slice a zs.length cap] 24)).alloc (.cells #[.int .i64 ((128 : Nat) : Int)] 3)) := ⟨_, rfl⟩
  have hsz : W1.heap.size = w2.heap.size + 3 := by rw [hW1]; simp
  have bL : Boxed W1 w2.heap.size 27 (.slice (some ⟨w1.heap.size, 0, none⟩) 0 (zs.length / 128)) := by rw [hW1]; exact ((Boxed.new w2 _ _).alloc _).alloc _
  have bX1 : Boxed W1 (w2.heap.size + 1) 24 (.slice a zs.length cap) := by
    have h := Boxed.new (w2.alloc (.cells #[.slice (some ⟨w1.heap.size, 0, none⟩) 0 (zs.length / 128)] 27)) 24 (.slice a zs.length cap)
    rw [World.size_alloc] at h
    rw [hW1]; exact h.alloc _
  have bX2 : Boxed W1 (w2.heap.size + 2) 3 (.int .i64 ((128 : Nat) : Int)) := by
    have h := Boxed.new ((w2.alloc (.cells #[.slice (some ⟨w1.heap.size, 0, none⟩) 0 (zs.length / 128)] 27)).alloc (.cells #[.slice a zs.length cap] 24)) 3 (.int .i64 ((128 : Nat) : Int))
    rw [World.size_alloc, World.size_alloc] at h
    rw [hW1]; exact h
  have hB12 : Below w1.heap.size w1 w2 := (Below.refl _ _).grown G2.out (Nat.le_refl _) (fun k h => by cases h)
  have hB2 : Below w2.heap.size w2 W1 := by
    rw [hW1]
    exact ((((Below.refl w2.heap.size w2).alloc (Nat.le_refl _) _).alloc (by simp) _).alloc (by simp; omega) _)
  have hOld : Below w.heap.size w W1 := (K1.out.2.trans (hB12.mono (by omega))).trans (hB2.mono (by omega))
  have hCk : Ck W1 w.heap.size (w2.heap.size + 3) 21 true := ((K1.out.1.below hB12).below hB2).relo
  have hRow := own_below O2.out hB2
  clear c1
  have hI0 : Itb zs w w1.heap.size w2.heap.size (.slice a zs.length cap) [] W1 :=
    ⟨⟨_, bL, by simpa [readZ] using hRow, .inl rfl⟩, hCk, bX1, bX2, hOld, by omega⟩
  rw [show (((w2.alloc (.cells #[.slice (some ⟨w1.heap.size, 0, none⟩) 0 (zs.length / 128)] 27)).alloc (.cells #[.slice a zs.length cap] 24)).alloc (.cells #[.int .i64 128] 3)) = W1 from hW1.symm]
  clear hW1 hRow hCk hB12 hB2 O2 G2
  have hmx : Tryd.prog.follows .mixedOrders = true := by kernel_rfl
  obtain ⟨b, off, hab⟩ : ∃ b off, 0 < zs.length → a = some ⟨b, off, none⟩ ∧ b < w.heap.size ∧ ∀ i, i < zs.length → w.cell? ⟨b, off + i, none⟩ = some (.int .u8 (zs.getD i 0)) := by
    rcases Nat.eq_zero_or_pos zs.length with h | h
    · exact ⟨0, 0, fun h2 => by omega⟩
    · obtain ⟨b, off, e, h1, h2⟩ := HA.out (fun e => by rw [e] at h; simp at h)
      exact ⟨b, off, fun _ => ⟨e, h1, h2⟩⟩
  refine wpIn_rangeFunc_ownG rfl (by omega) (gf := 82) (lb := #[.pointer (some ⟨w2.heap.size + 1, 0, none⟩), .pointer (some ⟨w2.heap.size + 2, 0, none⟩)]) rfl trivial (enters_of Tryd.func82 (by kernel_rfl) rfl)
    (chunk_stops 5 (by omega) (w2.heap.size + 1) (w2.heap.size + 2) w.heap.size zs.length 128 a cap (by omega) (by omega) hz hcap.1 hcap.2 b off (fun h => (hab h).1) W1 bX1 bX2) Kc.trans (Kc_b (by omega) (by omega) (by omega)) (Below.refl _ _) (fun _ => rfl)
    (Itb zs w w1.heap.size w2.heap.size (.slice a zs.length cap))
    (fun cd pre W => False)
    (by rw [hsz]; exact Itb.own (by omega))
    (by intro cd s W W' row h; cases h)
    hI0
    (fun x => { tmps := #[.slice a zs.length cap, undef, .slice none 0 0, .nilIface, .pointer (some ⟨w.heap.size, 0, none⟩), .pointer (some ⟨w2.heap.size, 0, none⟩), pieceV b off zs.length 128 x, undef, undef, .agg #[.int .i64 21, .nilIface], .slice a zs.length cap, .int .i64 (zs.length : Int), .bool true, .tuple #[], .pointer (some ⟨w.heap.size, 1, none⟩), .nilIface, .bool false, undef, undef, .slice a zs.length cap, .int .i64 (zs.length : Int), .int .i64 ((zs.length : Int) / 128), .slice (some ⟨w1.heap.size, 0, none⟩) 0 (zs.length / 128), .slice a zs.length cap, .func (.func 82) #[] #[.pointer (some ⟨w2.heap.size + 1, 0, none⟩), .pointer (some ⟨w2.heap.size + 1 + 1, 0, none⟩)], pieceV b off zs.length 128 x, undef, undef, undef, undef, undef, undef, undef, undef, undef, undef, undef, undef, undef, undef, undef], defers := [] }) ?assign ?body ?done ?stop
  case assign =>
    intro l x W K hK
    gi_wp2
    exact hK
  case body =>
    rintro l pre x W hI hlt
    have hpl := pieceB_len zs 128 x
    have HRd := hide (show Rd .u8 W (pieceV b off zs.length 128 x) (pieceB zs 128 x) from by
      rcases Nat.eq_zero_or_pos zs.length with h | h
      · have e0 : pieceB zs 128 x = [] := List.eq_nil_of_length_eq_zero (by omega)
        rw [e0]
        exact ⟨some ⟨b, off + x * 128, none⟩, min 128 (zs.length - x * 128), by simp [pieceV, h], by simp, fun h => absurd rfl h, by simp, by unfold maxLen; omega⟩
      · obtain ⟨_, hbw, hcl⟩ := hab h
        exact Rd.piece (Nat.lt_of_lt_of_le hbw hI.old.size) (by omega) (fun i hi => (hI.old.cell (p := ⟨b, off + i, none⟩) hbw).trans (hcl i hi)))
    have HBd := hide (pieceB_bd HG.out.2.1 128 x)
    have HI := hide hI
    generalize hP : pieceB zs 128 x = ps at *
    obtain ⟨sA, sL, sC, hsv⟩ : ∃ sA sL sC, pieceV b off zs.length 128 x = .slice sA sL sC := ⟨_, _, _, rfl⟩
    have hps : ps.length ≤ 128 := by omega
    rw [hsv] at HRd ⊢
    clear hI hsv
    gi_wp2_with (first | (refine ⟨trivial, ?_⟩; gi_at_call 58; fail))
    refine ⟨trivial, ?_⟩
    refine (CallsIn.inRound l (callsIn_wide.2 (implDI_same _ ps _ HRd.out HBd.out (by omega) (HG.out.2.2.below HI.out.old)))).mono ?_
    rintro e w3 ⟨rfl, b3⟩
    have HN := hide (decI_len ps)
    have HSn := hide (readZ_snoc zs pre x)
    have HSk := hide (readOk_snoc zs pre x)
    rw [hP] at HSn HSk
    generalize decI ps = r at HN HSn ⊢
    generalize codeDI ps = cd at HSk ⊢
    have HZ := hide (show (cellsI r).size = 24 from by rw [cellsI_size]; exact HN.out)
    have HK := hide (show Blk (w3.alloc (.cells (cellsI (List.replicate 24 0)) 44)) w3.heap.size (cellsI (List.replicate 24 0)) 44 ∧ Below w3.heap.size w3 (w3.alloc (.cells (cellsI (List.replicate 24 0)) 44)) from ⟨Blk.new _ _ _, (Below.refl _ _).alloc (Nat.le_refl _) _⟩)
    have B3 := hide b3
    clear b3 HRd HBd
    gi_wp2_with (first | (refine wpListIn_store_new w3.heap.size w3 rfl 44 _ _ rfl w3.heap.size (cellsI r) rfl rfl 44 (cellsI (List.replicate 24 0)) HK.out.1 (by rw [HZ.out]; exact info24) (by rw [HZ.out]; rfl) (cellsI_one _) HK.out.2 (Nat.le_refl _) ?_; intro w4 k4 b4; have K4 := hide k4; have B4 := hide b4; clear k4 b4) | (refine ⟨trivial, ?_⟩; gi_at_call 36; fail))
    refine ⟨trivial, ?_⟩
    have hsW := HI.out.size
    have hs3 := B3.out.size
    have hs4 := B4.out.size
    have hk4 := K4.out.lt
    have hsO := HI.out.old.size
    have HB4 := hide (B3.out.trans (B4.out.mono B3.out.size))
    refine (CallsIn.inRound l (callsIn_wide.2 (need_any w.heap.size (w2.heap.size + 3) _ 21 _ (cd == 0) _ (HI.out.ck.below HB4.out) (by omega) (by omega)))).mono ?_
    rintro e w5 ⟨rfl, hc5, ht5⟩
    have hs5 := ht5.1.size
    obtain ⟨v, hv, hrow, hsh⟩ := HI.out.row
    have hpre : v = .slice (some ⟨w1.heap.size, 0, none⟩) pre.length (zs.length / 128) ∧ pre.length ≤ zs.length / 128 := by
      have hp2 : pcs zs.length 128 ≤ zs.length / 128 + 1 := by unfold pcs; omega
      rcases hsh with h | h
      · exact ⟨h, by omega⟩
      · omega
    obtain ⟨rfl, hpl2⟩ := hpre
    have V5 := hide (boxT_tch (boxT_below hv HB4.out (by omega)) ht5 (by omega))
    have R5 := hide ((own_below hrow HB4.out).kept ht5.1 (.inr (by simp [Value.ownBlock]; omega)))
    have I5 := hide (show Blk w5 w3.heap.size (cellsI r) 44 from (ht5.1.block _ hk4 (by simp; omega)).trans K4.out)
    have C5 := hide (And.intro hc5 ht5)
    have cL := V5.out.cell
    clear hv hrow hsh hc5 ht5 K4 HK
    by_cases hfit : pre.length + 1 ≤ zs.length / 128
    · gi_wp2_with (first | (refine wpListIn_load_mid rfl 44 _ rfl w3.heap.size 0 rfl (r.map (Value.int .i64)) _ (row_range I5.out) Tryd.underlying44 rfl (by rw [List.length_map, HN.out]; exact info24) ?_) | (refine wpListIn_build1 rfl 27 44 _ rfl (cellsI r) rfl i0 _ Tryd.underlying27 hi hz0 (by rw [hz1, HZ.out]) (by rw [HZ.out]; omega) (by rw [HZ.out]; omega) ?_) | (gi_at_builtin; refine wpListIn_append_fits _ rfl _ _ 27 rfl (w.heap.size + 1) 44 i0 24 Tryd.underlying27 hi hz1 w1.heap.size pre.length (zs.length / 128) _ rfl (R5.out.alloc _) ⟨w5.heap.size, 0, none⟩ 1 1 (r.map (Value.int .i64)) rfl (by rw [List.length_map, HN.out]) (cells_new w5 r _) (ints_oneCell _ _) hfit ?_; intro w6 o6 g6; have O6 := hide o6; have G6 := hide g6; have cL6 := ((V5.out.alloc (.cells (cellsI r) 44)).kept g6 (by simp; omega)).cell; have fL6 := ((V5.out.alloc (.cells (cellsI r) 44)).kept g6 (by simp; omega)).frozen; clear o6 g6))
      rw [hsz]
      exact Itb.next HI.out (by omega) (by omega) HB4.out C5.out.1 C5.out.2 HSk.out.symm V5.out _ G6.out (by
        rw [HSn.out, List.map_append, show (pre ++ [x]).length = pre.length + 1 from by simp]
        exact O6.out) (by simp [Value.ownBlock]; omega) (.inl (by simp))
    · gi_wp2_with (first | (refine wpListIn_load_mid rfl 44 _ rfl w3.heap.size 0 rfl (r.map (Value.int .i64)) _ (row_range I5.out) Tryd.underlying44 rfl (by rw [List.length_map, HN.out]; exact info24) ?_) | (refine wpListIn_build1 rfl 27 44 _ rfl (cellsI r) rfl i0 _ Tryd.underlying27 hi hz0 (by rw [hz1, HZ.out]) (by rw [HZ.out]; omega) (by rw [HZ.out]; omega) ?_) | (gi_at_builtin; refine wpListIn_append_own _ rfl _ _ 27 rfl (w.heap.size + 1) 44 i0 (.agg (cellsI (List.replicate 24 0))) 24 192 Tryd.underlying27 hi hz0 hz1 hz2 rfl (by decide) _ _ _ rfl (R5.out.alloc _) ⟨w5.heap.size, 0, none⟩ 1 1 (r.map (Value.int .i64)) rfl (by rw [List.length_map, HN.out]) (cells_new w5 r _) (ints_oneCell _ _) (by unfold maxLen; omega) (by omega) (by simp; omega) ?_; intro v6 w6 o6 g6 f6; obtain ⟨gg, cap6, rfl⟩ := ownsRow_succ o6; have O6 := hide o6; have G6 := hide (show (w5.alloc (.cells (cellsI r) 44)).grownBy w6 (some w1.heap.size) from g6); have cL6 := ((V5.out.alloc (.cells (cellsI r) 44)).kept G6.out (by simp; omega)).cell; have fL6 := ((V5.out.alloc (.cells (cellsI r) 44)).kept G6.out (by simp; omega)).frozen; clear o6 g6 f6))
      rw [hsz]
      exact Itb.next HI.out (by omega) (by omega) HB4.out C5.out.1 C5.out.2 HSk.out.symm V5.out _ G6.out (by
        rw [HSn.out, List.map_append, show (pre ++ [x]).length = pre.length + 1 from by simp]
        exact O6.out) (by have h := V5.out.alloc (.cells (cellsI r) 44); exact fun e => (h.kept G6.out (by simp; omega)).not_row (by decide) O6.out e) (.inr (by simp; omega))
  case done =>
    rintro D ys W hD rfl hI hK
    rw [hsz] at hD
    obtain ⟨v, hv, hrow, _⟩ := hI.row
    obtain ⟨a', cap', rfl⟩ := ownT_shape hrow
    obtain ⟨ev, c5, hf⟩ := hI.ck.fault
    have cL := hv.cell
    have HRow := hide hrow
    have HK := hide hK
    have HF := hide hf
    have hle : w.heap.size ≤ w2.heap.size + 3 := by omega
    have HOldD := hide (hI.old.drew.trans (belowK_b (w := w) (Nat.le_refl _) W.drew D _ (.deferred none) (by omega) hK rfl rfl))
    clear hI hrow hK hv hf
    gi_wp2
    gi_region_o
    gi_wp2
    refine ⟨by simp, .inl ⟨_, _, rfl, run_takeDeferred (show W.drew.heap[D]? = _ from HK.out), ?_⟩⟩
    refine ⟨_, results_tmp2 rfl _ _ _, _, ev, rfl, ?_, ?_, HOldD.out⟩
    · exact FaultIs.putObj (HF.out.mono (by omega)) HK.out rfl
    · have h := own_mono (ownsRow_putObj (W := W.drew) HRow.out (.deferred none) HK.out rfl) (show w.heap.size ≤ w.heap.size + 1 by omega)
      rw [List.length_range] at h
      exact h
  case stop =>
    rintro D cd pre W hD hSp hx
    cases hx
end Go.Proofs.YtlgafpjmifacmaaDoor
