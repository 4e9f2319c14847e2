/- The program lays a slot down: laySlot. The program lays a directory down: bytes. The program takes a name out of a directory: remove. The model joins byte strings of any length: l02Join. The model takes a name out of a directory: l06Remove. What is left behind a removal (mathematics): the program's entries laid down are the model's bytes. DirRemove of the model and of the program. The law on DirRemove, walked: it answers true and turns nothing that was there. -/
import Derived.Test.YtcciaojdceejcaaDoorJdH
import Derived.OwnWalk
import Derived.Maps.OwnSet
import Derived.Laws.AppendOwnNone
import Derived.Test.YtcciaojdceejcaaDoorApart
namespace Go.Proofs.YtcciaojdceejcaaDoor
set_option linter.unusedVariables false
set_option linter.unusedSimpArgs false
open Go.RowKit

/-- What the laying of a slot keeps: the row so far, the boxed entry, all else. -/
structure Lk (w wr : World) (g base k cap : Nat) (xs : List Value) (C : Array Value) : Prop where
  own : wr.ownsRow base 5 1 (.slice (some ⟨g, 0, none⟩) k cap) k xs
  blk : Blk wr w.heap.size C 34
  gr : w.grownBy wr (some g)
  lt : g < w.heap.size
theorem Lk.step {w wr w' : World} {g base k k' cap : Nat} {xs ys : List Value} {C : Array Value} (h : Lk w wr g base k cap xs C) (ho : w'.ownsRow base 5 1 (.slice (some ⟨g, 0, none⟩) k' cap) k' ys) (hg : wr.grownBy w' (some g)) : Lk w w' g base k' cap ys C :=
  ⟨ho, (hg.block _ h.blk.lt (by have := h.lt; simp; omega)).trans h.blk, grownBy_trans h.gr hg, h.lt⟩

set_option maxRecDepth 100000 in
set_option maxHeartbeats 1000000 in
theorem laySlot_any (g base k cap ino kd : Nat) (nm : ByteArray) (xs : List Value) (w : World) (h : w.ownsRow base 5 1 (.slice (some ⟨g, 0, none⟩) k cap) k xs) (hr : k + 32 ≤ cap) (hcap : cap ≤ 140737488355328) (hi : ino < 4294967296) (hk : kd < 256) (hn : nm.size ≤ 26) :
    Calls Tryd.prog 64 #[.slice (some ⟨g, 0, none⟩) k cap, .agg (entC nm (ino : Int) (kd : Int))] w fun e w' => e = .returned (.slice (some ⟨g, 0, none⟩) (k + 32) cap) ∧ w'.ownsRow base 5 1 (.slice (some ⟨g, 0, none⟩) (k + 32) cap) (k + 32) (xs ++ (slotB nm ino kd).map (Value.int .u8)) ∧ w.grownBy w' (some g) := by
  obtain ⟨i0, hi0, hz0, hz1', hz2⟩ := info_parts infoU8
  have hgl := (h.lt g rfl).2
  have L0 := hide (show Lk w (w.alloc (.cells (entC nm (ino : Int) (kd : Int)) 34)) g base k cap xs (entC nm (ino : Int) (kd : Int)) from ⟨h.alloc _, Blk.new w _ _, World.grownBy_alloc _ _ _, hgl⟩)
  clear h
  have w32 : IntKind.u32.wrap (ino : Int) = (ino : Int) := by
    simp only [IntKind.wrap, IntKind.bits, IntKind.signed]
    simp
    omega
  have w8 : IntKind.u8.wrap (kd : Int) = (kd : Int) := wrap_u8 kd hk
  have w8n : IntKind.u8.wrap (nm.size : Int) = (nm.size : Int) := wrap_u8 nm.size (by omega)
  have c1 := (L0.out.blk.cell 1).trans (show (entC nm (ino : Int) (kd : Int))[1]? = some (.int .i64 (ino : Int)) from rfl)
  go_enter Tryd.func64, Tryd.ntmps64
  go_wp2_with (go_at_call 81; fail)
  refine (lay32_any g base k cap ino _ _ L0.out.own (by omega) (by omega) hi).mono ?_
  rintro e w1 ⟨rfl, o1, g1⟩
  have L1 := hide (L0.out.step o1 g1)
  clear o1 g1 L0 c1
  have c2 := (L1.out.blk.cell 2).trans (show (entC nm (ino : Int) (kd : Int))[2]? = some (.int .i64 (kd : Int)) from rfl)
  go_wp2_with (go_at_call 82; fail)
  refine (lay8_any g base (k + 4) cap kd _ _ L1.out.own (by omega) (by omega) hk).mono ?_
  rintro e w2 ⟨rfl, o2, g2⟩
  have L2 := hide (L1.out.step o2 g2)
  clear o2 g2 L1 c2
  have c3 := (L2.out.blk.cell 0).trans (show (entC nm (ino : Int) (kd : Int))[0]? = some (.string nm) from rfl)
  go_wp2_with (go_at_call 82; fail)
  refine (lay8_any g base (k + 4 + 1) cap nm.size _ _ L2.out.own (by omega) (by omega) (by omega)).mono ?_
  rintro e w3 ⟨rfl, o3, g3⟩
  have L3 := hide (L2.out.step o3 g3)
  clear o3 g3 L2 c3
  have c4 := (L3.out.blk.cell 0).trans (show (entC nm (ino : Int) (kd : Int))[0]? = some (.string nm) from rfl)
  go_wp2_with (at_builtin; refine Go.Lib.wpList_append_fits_string _ rfl (.tmp 25) (.tmp 27) 22 9 rfl base 5 i0 Tryd.underlying22 Tryd.underlying9 hi0 hz1' (some ⟨g, 0, none⟩) (k + 4 + 1 + 1) cap _ rfl L3.out.own nm rfl (by omega) (by omega) ?_; intro w4 o4 g4)
  rw [strInts_cells] at o4
  have L4 := hide (L3.out.step o4 g4)
  clear o4 g4 L3 c4
  go_wp2_with (go_at_call 83; fail)
  refine (layZeros_any g base (k + 4 + 1 + 1 + nm.size) cap (k + 32) _ _ L4.out.own (by omega) (by omega) (by omega)).mono ?_
  rintro e w5 ⟨rfl, o5, g5⟩
  have L5 := hide (L4.out.step o5 g5)
  clear o5 g5 L4
  go_wp2
  go_ret
  refine ⟨rfl, ?_, L5.out.gr⟩
  have h5 := L5.out.own
  rw [show k + 32 - (k + 4 + 1 + 1 + nm.size) = 26 - nm.size by omega] at h5
  unfold slotB
  simpa only [List.map_append, List.append_assoc] using h5
theorem slotB_zero : slotB ⟨#[]⟩ 0 0 = List.replicate 32 0 := by decide
end Go.Proofs.YtcciaojdceejcaaDoor

namespace Go.Proofs.YtcciaojdceejcaaDoor
set_option linter.unusedVariables false
set_option linter.unusedSimpArgs false
open Go.RowKit

/-- An entry that can be laid, its bytes, the bytes of a list of entries. -/
def okE (e : ByteArray × Int × Int) : Prop := e.1.size ≤ 26 ∧ 0 ≤ e.2.1 ∧ e.2.1 < 4294967296 ∧ 0 ≤ e.2.2 ∧ e.2.2 < 256
def entB (e : ByteArray × Int × Int) : List Int := slotB e.1 e.2.1.toNat e.2.2.toNat
def bytesE (L : List (ByteArray × Int × Int)) : List Int := (L.map entB).flatten
theorem slotB_len (nm : ByteArray) (ino kd : Nat) (h : nm.size ≤ 26) : (slotB nm ino kd).length = 32 := by
  unfold slotB
  simp only [List.length_append, le_len, strInts_len, List.length_replicate]
  omega
theorem bytesE_len : ∀ L : List (ByteArray × Int × Int), (∀ e ∈ L, okE e) → (bytesE L).length = L.length * 32
  | [], _ => rfl
  | e :: L, h => by
    have h1 := bytesE_len L (fun x hx => h x (List.mem_cons_of_mem _ hx))
    have h2 : (entB e).length = 32 := slotB_len _ _ _ (h e (List.mem_cons_self)).1
    unfold bytesE at h1 ⊢
    rw [List.map_cons, List.flatten_cons, List.length_append, h1, h2, List.length_cons]
    omega
theorem bytesE_take (L : List (ByteArray × Int × Int)) (k : Nat) (hk : k < L.length) : bytesE (L.take (k + 1)) = bytesE (L.take k) ++ entB L[k] := by
  unfold bytesE
  rw [List.take_succ_eq_append_getElem hk, List.map_append, List.flatten_append]
  simp

set_option maxRecDepth 100000 in
set_option maxHeartbeats 1000000 in
theorem bytesD_any {H : Type} (base : Nat) (w : World) (b mb nn : Nat) (v : Value) (L : List (ByteArray × Int × Int)) (D : DataW H) (h : Dr base w b mb L.length nn v (entsI L) D) (hn : L.length ≤ 8192) (hok : ∀ e ∈ L, okE e) :
    Calls Tryd.prog 42 #[.pointer (some ⟨b, 0, none⟩)] w fun e w' => ∃ v', e = .returned v' ∧ w'.ownsRow w.heap.size 5 1 v' (L.length * 32) ((bytesE L).map (Value.int .u8)) ∧ Below w.heap.size w w' := by
  obtain ⟨i0, hi, hz0, hz1', hz2⟩ := info_parts infoU8
  have HG := hide (fun hp : 0 < L.length => own_sliceD h.own hp)
  have hcp : ∀ la lc, v = .slice la L.length lc → L.length ≤ lc ∧ lc ≤ 9223372036854775807 := by
    intro la lc e
    rcases h.own.2 with ⟨e4, e5⟩ | ⟨g', cp', cur, e4, _, _, hn1, hn2, _⟩
    · rw [e4] at e; injection e with e6 e7 e8; omega
    · rw [e4] at e; injection e with e6 e7 e8; subst e8; exact ⟨hn1, hn2⟩
  obtain ⟨la, lc, rfl⟩ := ownD_shape h.own
  have c0 : w.cell? ⟨b, 0, none⟩ = some (.slice la L.length lc) := (h.blk.cell 0).trans rfl
  have hb := h.blk.lt
  obtain ⟨hc1, hc2⟩ := hcp la lc rfl
  have HO := hide hok
  clear h hcp hok
  go_enter Tryd.func42, Tryd.ntmps42
  go_wp2_with (refine wpList_make_own _ rfl _ _ 22 rfl w.heap.size 5 i0 (.int .u8 0) 1 Tryd.underlying22 hi hz0 hz1' .i64 .i64 _ (L.length * 32) rfl rfl (by go_num) (by rw [hz2]; omega) (by unfold maxLen; omega) (Nat.le_refl _) ?_; intro w1 o1 g1; have O1 := hide o1; have G1 := hide (show Below w.heap.size w w1 from (Below.refl _ _).grown g1 (Nat.le_refl _) (fun k h => by cases h)); have c1 := (G1.out.cell (p := ⟨b, 0, none⟩) hb).trans c0; clear o1 g1)
  go_loopw [3, 18] (fun o i wr => ∃ k : Nat, k ≤ L.length ∧ i = .int .i64 k ∧ o = .slice (some ⟨w.heap.size, 0, none⟩) (k * 32) (L.length * 32) ∧ wr.ownsRow w.heap.size 5 1 (.slice (some ⟨w.heap.size, 0, none⟩) (k * 32) (L.length * 32)) (k * 32) ((bytesE (L.take k)).map (Value.int .u8)) ∧ Below w.heap.size w wr) (fun _ i _ => L.length - (intOf i).toNat)
  case atStart => exact ⟨0, by omega, rfl, by simp, by simpa [bytesE] using O1.out, G1.out⟩
  case round =>
    clear O1 G1 c1 c0
    obtain ⟨k, hk, rfl, rfl, hown, hb1⟩ := hrel
    have HOw := hide hown
    have HBw := hide hb1
    clear hown
    by_cases hlt : k < L.length
    · obtain ⟨g, cap, e, hg1, hg2, hgc⟩ := HG.out (by omega)
      injection e with e1 e2 e3
      subst e1 e3
      have hx := HO.out L[k] (List.getElem_mem hlt)
      have HT := hide (bytesE_take L k hlt)
      obtain ⟨en, hen⟩ : ∃ en, en = L[k] := ⟨_, rfl⟩
      rw [← hen] at hx HT
      obtain ⟨nm, ino, kd⟩ := en
      obtain ⟨hx1, hx2, hx3, hx4, hx5⟩ := hx
      obtain ⟨i, rfl⟩ := Int.eq_ofNat_of_zero_le hx2
      obtain ⟨q, rfl⟩ := Int.eq_ofNat_of_zero_le hx4
      have HRg := hide (show wr.rangeAt g (k * 3) (entC nm (i : Int) (q : Int)).toList from by
        intro j u hu
        have hL : L[k]? = some (nm, (i : Int), (q : Int)) := by rw [List.getElem?_eq_getElem hlt, ← hen]
        have h1 := hgc (k * 3 + j) u (entsI_at hL j u hu)
        rw [Addr.add_mid, Nat.zero_add] at h1
        exact (hb1.cell (p := ⟨g, k * 3 + j, none⟩) hg2).trans h1)
      have HK := hide (show Blk (wr.alloc (.cells (entC ⟨#[]⟩ 0 0) 34)) wr.heap.size (entC ⟨#[]⟩ 0 0) 34 ∧ Below wr.heap.size wr (wr.alloc (.cells (entC ⟨#[]⟩ 0 0) 34)) from ⟨Blk.new _ _ _, (Below.refl _ _).alloc (Nat.le_refl _) _⟩)
      clear hb1 hgc hen
      go_wp2_with (first
        | (refine wpList_load_midD (by first | rfl | (simp [Region.wanted, yielded]; done)) 34 _ rfl g (k * 3) rfl (entC nm (i : Int) (q : Int)).toList _ HRg.out Tryd.underlying34 rfl infoD3 ?_)
        | (refine wpList_store_newD wr.heap.size wr rfl 34 _ _ rfl wr.heap.size (entC nm (i : Int) (q : Int)) rfl rfl 34 (entC ⟨#[]⟩ 0 0) HK.out.1 infoD3 rfl entC_one HK.out.2 (Nat.le_refl _) ?_; intro w5 k5 b5; have K5 := hide k5; have O5 := hide (own_below HOw.out b5); have B5 := hide (HBw.out.trans (b5.mono HBw.out.size)); clear k5 b5)
        | (refine wpList_load_midD (by first | rfl | (simp [Region.wanted, yielded]; done)) 34 _ rfl wr.heap.size 0 rfl (entC nm (i : Int) (q : Int)).toList _ (ent_range K5.out) Tryd.underlying34 rfl infoD3 ?_)
        | (go_at_call 64; fail))
      refine (laySlot_any w.heap.size w.heap.size (k * 32) (L.length * 32) i q nm _ _ O5.out (by omega) (by omega) (by omega) (by omega) hx1).mono ?_
      rintro e w6 ⟨rfl, o6, g6⟩
      have HW := hide (show w6.ownsRow w.heap.size 5 1 (.slice (some ⟨w.heap.size, 0, none⟩) ((k + 1) * 32) (L.length * 32)) ((k + 1) * 32) ((bytesE (L.take (k + 1))).map (Value.int .u8)) ∧ Below w.heap.size w w6 from by
        refine ⟨?_, B5.out.grown g6 B5.out.size (fun r h => by cases h; exact Nat.le_refl _)⟩
        rw [HT.out, List.map_append, show (k + 1) * 32 = k * 32 + 32 by omega]
        exact o6)
      clear o6 g6
      go_wp2
      go_roundw
      case rel => exact ⟨k + 1, by omega, by go_num, by rw [show (k + 1) * 32 = k * 32 + 32 by omega], HW.out.1, HW.out.2⟩
      case measure => simp [intOf]; omega
    · obtain rfl : k = L.length := by omega
      clear hb1
      go_wp2
      go_ret
      have h1 := HOw.out
      rw [List.take_length] at h1
      exact ⟨_, rfl, h1, HBw.out⟩
end Go.Proofs.YtcciaojdceejcaaDoor

namespace Go.Proofs.YtcciaojdceejcaaDoor
set_option linter.unusedVariables false
set_option linter.unusedSimpArgs false
open Go.RowKit

/-- Without the blocks at the end that have no entry. -/
def trimE (L : List (ByteArray × Int × Int)) : List (ByteArray × Int × Int) :=
  if h : 16 ≤ L.length ∧ (L.drop (L.length - 16)).all zE = true then trimE (L.take (L.length - 16)) else L
  termination_by L.length
  decreasing_by rw [List.length_take]; omega
theorem trimE_step {L : List (ByteArray × Int × Int)} (h1 : 16 ≤ L.length) (h2 : (L.drop (L.length - 16)).all zE = true) : trimE L = trimE (L.take (L.length - 16)) := by
  rw [trimE, dif_pos ⟨h1, h2⟩]
theorem trimE_stop {L : List (ByteArray × Int × Int)} (h : ¬ (16 ≤ L.length ∧ (L.drop (L.length - 16)).all zE = true)) : trimE L = L := by
  rw [trimE, dif_neg h]
theorem entsI_take (L : List (ByteArray × Int × Int)) : ∀ m, (entsI L).take (m * 3) = entsI (L.take m) := by
  induction L with
  | nil => intro m; simp [entsI]
  | cons e es ih =>
    intro m
    cases m with
    | zero => simp [entsI]
    | succ m =>
      rw [show (m + 1) * 3 = m * 3 + 1 + 1 + 1 by omega, List.take_succ_cons]
      unfold entsI
      rw [List.take_succ_cons, List.take_succ_cons, List.take_succ_cons, ih m]
theorem putE_set : ∀ (L : List (ByteArray × Int × Int)) (k : Nat) (nm : ByteArray) (ino kd : Int), putE (entsI L) k nm ino kd = entsI (L.set k (nm, ino, kd))
  | [], k, nm, ino, kd => by simp [putE, entsI]
  | e :: es, 0, nm, ino, kd => by simp [putE, entsI]
  | e :: es, k + 1, nm, ino, kd => by
    have ih := putE_set es k nm ino kd
    unfold putE at ih ⊢
    rw [List.set_cons_succ]
    show _ = Value.string e.1 :: .int .i64 e.2.1 :: .int .i64 e.2.2 :: entsI (es.set k (nm, ino, kd))
    rw [← ih, show (k + 1) * 3 = k * 3 + 1 + 1 + 1 by omega]
    rfl
theorem own_cut {w : World} {base : Nat} {e : TypeId} {a : Option Addr} {n m cap : Nat} {xs : List Value} (h : w.ownsRow base e 3 (.slice a n cap) n xs) (hm : m ≤ n) : w.ownsRow base e 3 (.slice a m cap) m (xs.take (m * 3)) := by
  rcases h.2 with ⟨e4, e5⟩ | ⟨g', cp', cur, e4, hb, hc, hn1, hn2, hs, ht⟩
  · injection e4 with e6 e7 e8
    subst e6 e8
    obtain rfl : m = 0 := by omega
    exact ⟨by simp, .inl ⟨rfl, rfl⟩⟩
  · injection e4 with e6 e7 e8
    subst e6 e8
    refine ⟨by rw [List.length_take, h.1]; omega, .inr ⟨g', cap, cur, rfl, hb, hc, by omega, hn2, hs, ?_⟩⟩
    rw [← ht, List.take_take]
    congr 1
    omega
theorem ne_len {a : Option Addr} {n m cap b : Nat} (h : (Value.slice a n cap).ownBlock ≠ some b) : (Value.slice a m cap).ownBlock ≠ some b := by
  cases a with
  | none => simp [Value.ownBlock]
  | some p => obtain ⟨x, y, z⟩ := p; exact fun e => h (by rw [← e]; first | rfl | (unfold Value.ownBlock; rfl))
theorem Dr.cut {H : Type} {base : Nat} {w : World} {b mb n nn m : Nat} {a : Option Addr} {cap : Nat} {xs : List Value} {D : DataW H} (h : Dr base w b mb n nn (.slice a n cap) xs D) (hm : m ≤ n) : Dr base (w.setCell ⟨b, 0, none⟩ (.slice a m cap)) b mb m nn (.slice a m cap) (xs.take (m * 3)) D :=
  ⟨h.blk.set 0 _, ownsRow_setCell_other (own_cut h.own hm) (ne_len h.ne) _, ne_len h.ne, mapSet h.map _ (fun e => h.nb e.symm), h.nb⟩
theorem lookF {H : Type} {w : World} {mb nn : Nat} {D : DataW H} (h : w.ownsMap Tryd.prog 9 (plainElem (H := H) Tryd.prog 3) mb nn D) (nm : ByteArray) (hnm : nm.size ≤ maxLen) (k : Int) (hat : D.atKey (.string nm.data.toList) (.lit (.int .i64 0)) = .lit (.int .i64 k)) :
    (Instr.lookup 66 (.map (some mb)) (.string nm) false).run Tryd.prog w = .ok (.int .i64 k) w := by
  obtain ⟨c, hrun, hc, _⟩ := h.lookup_int (Maps.string_keyed Tryd.underlying9) Tryd.underlying66 Tryd.underlying3 (Tryd.zeroValue3 _) (WideMaps.keyOf_string_mk Tryd.underlying9 hnm)
  have e : (k : Int) = c := by
    have h2 := hat.symm.trans hc
    simpa using h2
  rw [e]
  exact hrun

set_option maxRecDepth 100000 in
set_option maxHeartbeats 2000000 in
theorem remove_any {H : Type} (base : Nat) (w : World) (b mb nn k : Nat) (v : Value) (L : List (ByteArray × Int × Int)) (D : DataW H) (nm : ByteArray) (h : Dr base w b mb L.length nn v (entsI L) D) (hn : L.length ≤ 8192) (hk : k < L.length) (hnm : nm.size ≤ maxLen)
    (hat : D.atKey (.string nm.data.toList) (.lit (.int .i64 0)) = .lit (.int .i64 (k : Int))) (hbb : base ≤ b) (hbm : base ≤ mb) :
    Calls Tryd.prog 43 #[.pointer (some ⟨b, 0, none⟩), .string nm] w fun e w' => e = .returned (.tuple #[]) ∧ (∃ v' D', Dr (H := H) base w' b mb (trimE (L.set k (⟨#[]⟩, 0, 0))).length nn v' (entsI (trimE (L.set k (⟨#[]⟩, 0, 0)))) D') ∧ Below base w w' := by
  obtain ⟨g, cap, rfl, hg1, hg2, hgc⟩ := own_sliceD h.own (by omega)
  have hcp : L.length ≤ cap ∧ cap ≤ 9223372036854775807 := by
    rcases h.own.2 with ⟨e4, _⟩ | ⟨g', cp', cur, e4, _, _, hn1, hn2, _⟩
    · cases e4
    · injection e4 with e5 e6 e7
      subst e7
      exact ⟨hn1, hn2⟩
  have hbw := h.blk.lt
  have hbg : b ≠ g := fun e => h.ne (by rw [e]; rfl)
  have hgm : g ≠ mb := fun e => h.nm (by rw [← e]; rfl)
  have HD := hide h
  have hkI : ¬ ((L.length : Int) ≤ (k : Int)) := by omega
  have HAt := hide hat
  clear h hgc hat
  go_enter Tryd.func43, Tryd.ntmps43
  go_wp2_with fail
  refine wp_region_noPanic ?_
  refine wp_region_held_drew (S := fun w' => w'.cell? ⟨b, 0, none⟩ = some (.slice (some ⟨g, 0, none⟩) L.length cap) ∧ w'.cell? ⟨b, 1, none⟩ = some (.map (some mb)) ∧ w'.ownsMap Tryd.prog 9 (plainElem (H := H) Tryd.prog 3) mb nn D) (by kernel_rfl) ⟨(HD.out.blk.cell 0).trans rfl, (HD.out.blk.cell 1).trans rfl, HD.out.map⟩ (fun hH => ?_)
  refine wpAnyH_take (i := 0) (oi := _) (v := (.pointer (some ⟨b, 0, none⟩))) rfl (by kernel_rfl) (by kernel_rfl) (by kernel_rfl) (fun _ _ _ h => h) (Or.inl ⟨by rfl, fun w' hw' => by go_simp⟩) hH ?_
  try simp only [Act.put, List.getElem_toArray, List.getElem_cons_zero, List.getElem_cons_succ, List.setIfInBounds_toArray, List.set_cons_zero, List.set_cons_succ]
  refine wpAnyH_take (i := 1) (oi := _) (v := (.pointer (some ⟨b, 0, none⟩))) rfl (by kernel_rfl) (by kernel_rfl) (by kernel_rfl) (fun _ _ _ h => h) (Or.inl ⟨by rfl, fun w' hw' => by go_simp⟩) hH ?_
  try simp only [Act.put, List.getElem_toArray, List.getElem_cons_zero, List.getElem_cons_succ, List.setIfInBounds_toArray, List.set_cons_zero, List.set_cons_succ]
  refine wpAnyH_take (i := 2) (oi := _) (v := (.pointer (some ⟨b, 0, none⟩))) rfl (by kernel_rfl) (by kernel_rfl) (by kernel_rfl) (fun _ _ _ h => h) (Or.inl ⟨by rfl, fun w' hw' => by go_simp⟩) hH ?_
  try simp only [Act.put, List.getElem_toArray, List.getElem_cons_zero, List.getElem_cons_succ, List.setIfInBounds_toArray, List.set_cons_zero, List.set_cons_succ]
  refine wpAnyH_take (i := 3) (oi := _) (v := (.slice (some ⟨g, 0, none⟩) L.length cap)) rfl (by kernel_rfl) (by kernel_rfl) (by kernel_rfl) (fun _ _ _ h => h) (Or.inl ⟨by rfl, fun w' hw' => by have hc := hw'.1; clear hw'; go_simp⟩) hH ?_
  try simp only [Act.put, List.getElem_toArray, List.getElem_cons_zero, List.getElem_cons_succ, List.setIfInBounds_toArray, List.set_cons_zero, List.set_cons_succ]
  refine wpAnyH_take (i := 4) (oi := _) (v := (.pointer (some ⟨b, 0, none⟩))) rfl (by kernel_rfl) (by kernel_rfl) (by kernel_rfl) (fun _ _ _ h => h) (Or.inl ⟨by rfl, fun w' hw' => by go_simp⟩) hH ?_
  try simp only [Act.put, List.getElem_toArray, List.getElem_cons_zero, List.getElem_cons_succ, List.setIfInBounds_toArray, List.set_cons_zero, List.set_cons_succ]
  refine wpAnyH_take (i := 5) (oi := _) (v := (.pointer (some ⟨b, 0, none⟩))) rfl (by kernel_rfl) (by kernel_rfl) (by kernel_rfl) (fun _ _ _ h => h) (Or.inl ⟨by rfl, fun w' hw' => by go_simp⟩) hH ?_
  try simp only [Act.put, List.getElem_toArray, List.getElem_cons_zero, List.getElem_cons_succ, List.setIfInBounds_toArray, List.set_cons_zero, List.set_cons_succ]
  refine wpAnyH_take (i := 6) (oi := _) (v := (.pointer (some ⟨b, 1, none⟩))) rfl (by kernel_rfl) (by kernel_rfl) (by kernel_rfl) (fun _ _ _ h => h) (Or.inl ⟨by rfl, fun w' hw' => by go_simp⟩) hH ?_
  try simp only [Act.put, List.getElem_toArray, List.getElem_cons_zero, List.getElem_cons_succ, List.setIfInBounds_toArray, List.set_cons_zero, List.set_cons_succ]
  refine wpAnyH_take (i := 7) (oi := _) (v := (.map (some mb))) rfl (by kernel_rfl) (by kernel_rfl) (by kernel_rfl) (fun _ _ _ h => h) (Or.inl ⟨by rfl, fun w' hw' => by have hc := hw'.2.1; clear hw'; go_simp⟩) hH ?_
  try simp only [Act.put, List.getElem_toArray, List.getElem_cons_zero, List.getElem_cons_succ, List.setIfInBounds_toArray, List.set_cons_zero, List.set_cons_succ]
  refine wpAnyH_take (i := 8) (oi := _) (v := (.string nm)) rfl (by kernel_rfl) (by kernel_rfl) (by kernel_rfl) (fun _ _ _ h => h) (Or.inl ⟨by rfl, fun w' hw' => by go_simp⟩) hH ?_
  try simp only [Act.put, List.getElem_toArray, List.getElem_cons_zero, List.getElem_cons_succ, List.setIfInBounds_toArray, List.set_cons_zero, List.set_cons_succ]
  refine wpAnyH_take (i := 9) (oi := _) (v := (.int .i64 (k : Int))) rfl (by kernel_rfl) (by kernel_rfl) (by kernel_rfl) (fun _ _ _ h => h) (Or.inl ⟨by rfl, fun w' hw' => by have hl := lookF hw'.2.2 nm hnm (k : Int) HAt.out; clear hw'; go_simp⟩) hH ?_
  try simp only [Act.put, List.getElem_toArray, List.getElem_cons_zero, List.getElem_cons_succ, List.setIfInBounds_toArray, List.set_cons_zero, List.set_cons_succ]
  refine wpAnyH_take (i := 10) (oi := _) (v := (.agg (entC ⟨#[]⟩ 0 0))) rfl (by kernel_rfl) (by kernel_rfl) (by kernel_rfl) (fun _ _ _ h => h) (Or.inl ⟨by rfl, fun w' hw' => by go_simp; rfl⟩) hH ?_
  try simp only [Act.put, List.getElem_toArray, List.getElem_cons_zero, List.getElem_cons_succ, List.setIfInBounds_toArray, List.set_cons_zero, List.set_cons_succ]
  refine wpAnyH_take (i := 11) (oi := _) (v := (.pointer (some ⟨g, k * 3, none⟩))) rfl (by kernel_rfl) (by kernel_rfl) (by kernel_rfl) (fun _ _ _ h => h) (Or.inl ⟨by rfl, fun w' hw' => by go_simp⟩) hH ?_
  try simp only [Act.put, List.getElem_toArray, List.getElem_cons_zero, List.getElem_cons_succ, List.setIfInBounds_toArray, List.set_cons_zero, List.set_cons_succ]
  refine wpAnyH_ready (rs := [12]) (by kernel_rfl) (by simp) ?_
  refine AllReadyH.cons (o := _) rfl (fun K hK => ?_) AllReadyH.nil
  rw [if_pos (by rfl)]
  refine wp_store_mid 34 _ _ rfl g (k * 3) (entC ⟨#[]⟩ 0 0) rfl rfl (there_own (w := World.drew w) HD.out.own hk) infoD3 entC_one ?_
  obtain ⟨w2, hw2⟩ : ∃ w2, w2 = (World.drew w).setCells g (k * 3) (entC ⟨#[]⟩ 0 0).toList := ⟨_, rfl⟩
  have hblk : ∀ k, k ≠ g → w2.heap[k]? = w.heap[k]? := fun k hk => by rw [hw2]; exact setCells_block g _ _ _ k hk
  have HB2 := hide (show Below base w w2 from by rw [hw2]; exact below_cells hg1 _ _ ((Below.refl _ _).drew))
  have HD2 := hide (show Dr base w2 b mb L.length nn (.slice (some ⟨g, 0, none⟩) L.length cap) (entsI (L.set k (⟨#[]⟩, 0, 0))) D from
    ⟨(hblk b hbg).trans HD.out.blk, by rw [hw2, ← putE_set]; exact own_putE (w := World.drew w) HD.out.own rfl k ⟨#[]⟩ 0 0, HD.out.ne, by
      obtain ⟨es, ck, h1, h2⟩ := HD.out.map
      exact ⟨es, ck, (hblk mb (fun e => hgm e.symm)).trans h1, h2⟩, HD.out.nb⟩)
  rw [← hw2]
  refine hK.out _ _ ⟨(HD2.out.blk.cell 0).trans rfl, (HD2.out.blk.cell 1).trans rfl, HD2.out.map⟩ (fun hH9 => ?_)
  clear hK K hw2 hblk
  try simp only [Act.put, List.getElem_toArray, List.getElem_cons_zero, List.getElem_cons_succ, List.setIfInBounds_toArray, List.set_cons_zero, List.set_cons_succ]
  refine wpAnyH_done (by kernel_rfl) (NoPanic.normal ?_) _
  clear hH hH9 HD
  have c2 : w2.cell? ⟨b, 1, none⟩ = some (.map (some mb)) := (HD2.out.blk.cell 1).trans rfl
  go_wp2_with (at_delete; refine wpList_delete_own _ rfl _ _ 66 9 rfl 3 (Maps.string_keyed Tryd.underlying9) Tryd.underlying66 _ mb nn D rfl HD2.out.map _ _ rfl (WideMaps.keyOf_string_mk Tryd.underlying9 hnm) ?_; intro w3 m3 t3)
  have HD3 := hide (show Dr base w3 b mb (L.set k (⟨#[]⟩, 0, 0)).length nn (.slice (some ⟨g, 0, none⟩) L.length cap) (entsI (L.set k (⟨#[]⟩, 0, 0))) (D.del (.string nm.data.toList)) from by
    rw [List.length_set]
    exact ⟨(t3.grown.block b HD2.out.blk.lt (by simpa using HD2.out.nb)).trans HD2.out.blk, HD2.out.own.kept t3.grown (by simpa [Value.ownBlock] using hgm), HD2.out.ne, m3, HD2.out.nb⟩)
  have HB3 := hide (show Below base w w3 from HB2.out.grown t3.grown (by have := HB2.out.size; omega) (fun r h => by cases h; exact hbm))
  clear m3 t3 HD2 HB2 c2
  obtain ⟨M0, hM0⟩ : ∃ M0, M0 = L.set k (⟨#[]⟩, 0, 0) := ⟨_, rfl⟩
  have hl0 : M0.length ≤ 8192 := by rw [hM0, List.length_set]; omega
  rw [← hM0] at HD3
  have HM0 := hide hM0
  clear hM0
  try simp only [Act.put]
  go_loopw [] (fun wr => ∃ M v', M.length ≤ 8192 ∧ trimE M = trimE M0 ∧ Dr base wr b mb M.length nn v' (entsI M) (D.del (.string nm.data.toList)) ∧ Below base w wr) (fun wr => match wr.cell? ⟨b, 0, none⟩ with | some (.slice _ l _) => l | _ => 0)
  case atStart => exact ⟨M0, _, hl0, rfl, HD3.out, HB3.out⟩
  case round =>
    clear HD3 HB3
    obtain ⟨M, v', hM, htr, hdr, hbl⟩ := hrel
    have HDr := hide hdr
    have HBl := hide hbl
    have HTr := hide htr
    clear hdr hbl htr
    by_cases h16 : 16 ≤ M.length
    · go_wp2_with (go_at_call 59; fail)
      refine (endsEmpty_big (H := H) base _ b mb nn v' M (D.del (.string nm.data.toList)) HDr.out hM h16).mono ?_
      rintro e w4 ⟨rfl, rfl⟩
      cases hz : (M.drop (M.length - 16)).all zE with
      | false =>
        have HZ := hide hz
        clear hz
        go_wp2
        go_end0
        refine ⟨rfl, ⟨v', D.del (.string nm.data.toList), ?_⟩, HBl.out⟩
        rw [← HM0.out, ← HTr.out, trimE_stop (by rw [HZ.out]; simp)]
        exact HDr.out
      | true =>
        have HZ := hide (trimE_step h16 hz)
        clear hz
        obtain ⟨la, lc, rfl⟩ := ownD_shape HDr.out.own
        have c4 : w4.cell? ⟨b, 0, none⟩ = some (.slice la M.length lc) := (HDr.out.blk.cell 0).trans rfl
        have fz4 := HDr.out.blk.frozen 0
        have hlc : M.length ≤ lc ∧ lc ≤ 9223372036854775807 := by
          rcases HDr.out.own.2 with ⟨e4, _⟩ | ⟨g', cp', cur, e4, _, _, hn1, hn2, _⟩
          · injection e4 with e5 e6 e7; omega
          · injection e4 with e5 e6 e7; subst e7; exact ⟨hn1, hn2⟩
        go_wp2_with fail
        go_region
        have H5 := hide (show Dr base (w4.drew.setCell ⟨b, 0, none⟩ (.slice la (M.length - 16) lc)) b mb (M.take (M.length - 16)).length nn (.slice la (M.length - 16) lc) (entsI (M.take (M.length - 16))) (D.del (.string nm.data.toList)) from by
          rw [List.length_take, Nat.min_eq_left (by omega), ← entsI_take]
          exact Dr.cut (w := World.drew w4) (show Dr base (World.drew w4) b mb M.length nn (.slice la M.length lc) (entsI M) (D.del (.string nm.data.toList)) from ⟨HDr.out.blk, HDr.out.own, HDr.out.ne, HDr.out.map, HDr.out.nb⟩) (by omega))
        have B5 := hide (show Below base w (w4.drew.setCell ⟨b, 0, none⟩ (.slice la (M.length - 16) lc)) from (HBl.out.drew).setCell (p := ⟨b, 0, none⟩) hbb _)
        go_wp2
        go_roundw
        case rel => exact ⟨M.take (M.length - 16), _, by rw [List.length_take]; omega, by rw [← HZ.out]; exact HTr.out, H5.out, B5.out⟩
        case measure =>
          show (match (w4.drew.setCell ⟨b, 0, none⟩ (.slice la (M.length - 16) lc)).cell? ⟨b, 0, none⟩ with | some (.slice _ l _) => l | _ => 0) < (match w4.cell? ⟨b, 0, none⟩ with | some (.slice _ l _) => l | _ => 0)
          rw [c4, (H5.out.blk.cell 0).trans (show _ = some (.slice la (M.length - 16) lc) from rfl)]
          show M.length - 16 < M.length
          omega
    · go_wp2_with (go_at_call 59; fail)
      refine (endsEmpty_small (H := H) base _ b mb nn M.length v' _ (D.del (.string nm.data.toList)) HDr.out (by omega)).mono ?_
      rintro e w4 ⟨rfl, rfl⟩
      go_wp2
      go_end0
      refine ⟨rfl, ⟨v', D.del (.string nm.data.toList), ?_⟩, HBl.out⟩
      rw [← HM0.out, ← HTr.out, trimE_stop (by omega)]
      exact HDr.out
end Go.Proofs.YtcciaojdceejcaaDoor

namespace Go.Proofs.YtcciaojdceejcaaDoor
set_option linter.unusedVariables false
set_option linter.unusedSimpArgs false
open Go.RowKit

theorem run_append_empty {P : Program} {w : World} (base : Nat) (t ty e : TypeId) (i : TypeInfo) (size : Nat) (ht : P.underlying t = some (.slice e)) (hi : P.info? e = some i)
    (v : Value) (n : Nat) (xs : List Value) (hown : w.ownsRow base e size v n xs) (a : Option Addr) (c : Nat) :
    (Builtin.append_ #[t, t] ty #[v, .slice a 0 c]).run P w = .ok v w := by
  rcases hown.2 with ⟨rfl, rfl⟩ | ⟨g, cap, cur, rfl, _, _, hnc, _⟩
  · cases a <;> simp [Builtin.append_, run_underlying ht, sizeOf, typeInfo, hi, Builtin.lenOf, Builtin.firstCells, loadCells, loadCellsFrom]
  · cases a <;> simp [Builtin.append_, run_underlying ht, sizeOf, typeInfo, hi, Builtin.lenOf, Builtin.firstCells, hnc, storeCells, loadCells, loadCellsFrom]
theorem wpList_append_empty {P : Program} {w : World} {ops : Array Oper} {rest : List Oper} {o : Oper} {a : Act} {Q : Exit → Act → World → Prop} (hgd : o.guard = none) (s x : Operand) (t : TypeId)
    (ho : o.op = .call { callee := .builtin .append, args := #[s, x], argTypes := #[t, t] })
    (base : Nat) (e : TypeId) (i : TypeInfo) (size : Nat) (ht : P.underlying t = some (.slice e)) (hi : P.info? e = some i)
    (v : Value) (n : Nat) (xs : List Value) (hs : a.eval s = v) (hown : w.ownsRow base e size v n xs) (ad : Option Addr) (c : Nat) (hx : a.eval x = .slice ad 0 c)
    (h : wpList P ops Q rest (a.put o.dst v) w) : wpList P ops Q (o :: rest) a w := by
  refine wpList_plain hgd fun K hK => ?_
  have hrun := run_append_empty (P := P) (w := w) base t o.type e i size ht hi v n xs hown ad c
  unfold Oper.wp
  simp [execOp, ho, resolve, invoke, builtin, hs, hx, hrun, Result.andThen]
  exact hK _ _ h
theorem own_cut1 {w : World} {base : Nat} {e : TypeId} {a : Option Addr} {n m cap : Nat} {xs : List Value} (h : w.ownsRow base e 1 (.slice a n cap) n xs) (hm : m ≤ n) : w.ownsRow base e 1 (.slice a m cap) m (xs.take m) := by
  rcases h.2 with ⟨e4, e5⟩ | ⟨g', cp', cur, e4, hb, hc, hn1, hn2, hs, ht⟩
  · injection e4 with e6 e7 e8
    subst e6 e8
    obtain rfl : m = 0 := by omega
    exact ⟨by simp, .inl ⟨rfl, rfl⟩⟩
  · injection e4 with e6 e7 e8
    subst e6 e8
    refine ⟨by rw [List.length_take, h.1]; omega, .inr ⟨g', cap, cur, rfl, hb, hc, by omega, hn2, hs, ?_⟩⟩
    rw [← ht, List.take_take]
    congr 1
    omega

set_option maxRecDepth 100000 in
set_option maxHeartbeats 1000000 in
theorem joinZ_any (g n c : Nat) (vs : List Value) (bs : List (List Int)) (w : World) (hcell : ∀ j v, vs[j]? = some v → w.cell? ⟨g, j, none⟩ = some v) (hall : AllRd w vs bs) (hn : bs.length = n) (hn2 : n ≤ 1000) (htot : bs.flatten.length ≤ 1000000) (hg : g < w.heap.size) :
    Calls Tryd.prog 70 #[.slice (some ⟨g, 0, none⟩) n c] w fun e w' => ∃ v', e = .returned v' ∧ w'.ownsRow w.heap.size 5 1 v' bs.flatten.length (bs.flatten.map (Value.int .u8)) ∧ Below w.heap.size w w' := by
  obtain ⟨i0, hi, hz0, hz1', hz2⟩ := info_parts infoU8
  have HC := hide (And.intro hcell (And.intro hall (And.intro hn htot)))
  have H0 := hide (own_empty w 5)
  have hb0 := hide (show Below w.heap.size w (w.alloc (.cells #[] 5)) from (Below.refl _ _).alloc (Nat.le_refl _) _)
  clear hcell hall hn htot
  go_enter Tryd.func70, Tryd.ntmps70
  go_wp2
  go_loopw [3, 9] (fun o i wr => ∃ k : Nat, k ≤ n ∧ i = .int .i64 k ∧ wr.ownsRow w.heap.size 5 1 o (bs.take k).flatten.length ((bs.take k).flatten.map (Value.int .u8)) ∧ Below w.heap.size w wr) (fun _ i _ => n - (intOf i).toNat)
  case atStart => exact ⟨0, by omega, rfl, by simpa using H0.out, hb0.out⟩
  case round =>
    clear H0 hb0
    obtain ⟨k, hk, rfl, hown, hb⟩ := hrel
    have hsz := hb.size
    by_cases hlt : k < n
    · obtain ⟨v, hv, hr⟩ := HC.out.2.1.at k (by rw [HC.out.2.2.1]; exact hlt)
      have HT := hide (flatten_take bs k (by rw [HC.out.2.2.1]; exact hlt))
      have hle : (bs.take k).flatten.length + (bs.getD k []).length ≤ 1000000 := by
        have h1 := take_flat_len bs (k + 1)
        rw [HT.out, List.length_append] at h1
        have := HC.out.2.2.2
        omega
      have c1 : wr.cell? ⟨g, k, none⟩ = some v := (hb.cell (p := ⟨g, k, none⟩) hg).trans (HC.out.1 k v hv)
      generalize bs.getD k [] = z at hr HT hle
      by_cases hbk : 0 < z.length
      · obtain ⟨bd, off, cp, rfl, hbw, _, _, hcell3⟩ := (hr.below hb).partsC hbk
        have HX := hide (show ∀ (j : Nat) (u : Value), (z.map (Value.int .u8))[j]? = some u → wr.cell? ((⟨bd, off, none⟩ : Addr).add j) = some u from fun j u hj => by
          have hjl : j < z.length := by
            rcases Nat.lt_or_ge j z.length with h | h
            · exact h
            · rw [List.getElem?_eq_none (by simpa using h)] at hj; cases hj
          have ea : (⟨bd, off, none⟩ : Addr).add j = ⟨bd, off + j, none⟩ := by unfold Addr.add; split <;> simp_all
          rw [ea, hcell3 j hjl]
          rw [List.getElem?_map, List.getElem?_eq_getElem hjl] at hj
          simp at hj
          rw [← hj]
          simp [List.getD, hjl])
        have HO := hide (And.intro hown hb)
        clear hcell3 hr hown hb hv
        go_wp2_with (at_builtin; refine append_fresh _ rfl (.tmp 13) (.tmp 14) 22 rfl w.heap.size 5 i0 (.int .u8 0) 1 1 Tryd.underlying22 hi hz0 hz1' hz2 rfl (by decide) _ _ _ rfl HO.out.1 ⟨bd, off, none⟩ z.length cp (z.map (Value.int .u8)) rfl (by simp) HX.out (ints_oneCell _ _) hbk (by unfold maxLen; omega) (by omega) (by omega) ?_; intro v4 w4 o4 g4 f4)
        have HW := hide (show w4.ownsRow w.heap.size 5 1 v4 (bs.take (k + 1)).flatten.length ((bs.take (k + 1)).flatten.map (Value.int .u8)) ∧ Below w.heap.size w w4 from by
          refine ⟨?_, HO.out.2.grown g4 (by omega) (fun r h => (HO.out.1.lt r h).1)⟩
          rw [HT.out, List.map_append, List.length_append]
          exact o4)
        clear o4 g4 f4
        go_roundw
        case rel => exact ⟨k + 1, by omega, by go_num, HW.out.1, HW.out.2⟩
        case measure => simp [intOf]; omega
      · have hz : z = [] := List.eq_nil_of_length_eq_zero (by omega)
        subst hz
        obtain ⟨a3, c3, rfl⟩ : ∃ a3 c3, v = .slice a3 0 c3 := by obtain ⟨a3, c3, e3, _⟩ := hr; exact ⟨a3, c3, e3⟩
        have HO := hide (And.intro hown hb)
        clear hr hown hb hv
        go_wp2_with (at_builtin; refine wpList_append_empty rfl (.tmp 13) (.tmp 14) 22 rfl w.heap.size 5 i0 1 Tryd.underlying22 hi _ _ _ rfl HO.out.1 a3 c3 rfl ?_)
        have HW := hide (show wr.ownsRow w.heap.size 5 1 _ (bs.take (k + 1)).flatten.length ((bs.take (k + 1)).flatten.map (Value.int .u8)) ∧ Below w.heap.size w wr from by
          refine ⟨?_, HO.out.2⟩
          rw [HT.out, List.append_nil]
          exact HO.out.1)
        go_roundw
        case rel => exact ⟨k + 1, by omega, by go_num, HW.out.1, HW.out.2⟩
        case measure => simp [intOf]; omega
    · have HO := hide (And.intro hown hb)
      have e : k = n := by omega
      clear hown hb
      go_wp2
      go_ret
      have h2 := HO.out
      rw [List.take_of_length_le (by rw [HC.out.2.2.1]; omega)] at h2
      exact ⟨_, rfl, h2.1, h2.2⟩

end Go.Proofs.YtcciaojdceejcaaDoor

namespace Go.Proofs.YtcciaojdceejcaaDoor
set_option linter.unusedVariables false
set_option linter.unusedSimpArgs false
open Go.RowKit

/-- The bytes with a slot of zeros; without the blocks of zeros at the end. -/
def outZ (zs : List Int) (k : Nat) : List Int := zs.take (32 * k) ++ (List.replicate 32 0 ++ zs.drop (32 * k + 32))
theorem outZ_len {zs : List Int} {k : Nat} (h : 32 * k + 32 ≤ zs.length) : (outZ zs k).length = zs.length := by
  unfold outZ
  simp only [List.length_append, List.length_take, List.length_replicate, List.length_drop]
  omega
def trimB (L : List Int) : List Int :=
  if h : 512 ≤ L.length ∧ allZ (L.drop (L.length - 512)) = true then trimB (L.take (L.length - 512)) else L
  termination_by L.length
  decreasing_by rw [List.length_take]; omega
theorem trimB_step {L : List Int} (h1 : 512 ≤ L.length) (h2 : allZ (L.drop (L.length - 512)) = true) : trimB L = trimB (L.take (L.length - 512)) := by
  rw [trimB, dif_pos ⟨h1, h2⟩]
theorem trimB_stop {L : List Int} (h : ¬ (512 ≤ L.length ∧ allZ (L.drop (L.length - 512)) = true)) : trimB L = L := by
  rw [trimB, dif_neg h]
theorem rep_getD (n i : Nat) (h : i < n) : (List.replicate n (0 : Int)).getD i 0 = 0 := by simp [List.getD, h]
theorem rep_getA (n i : Nat) (x : Value) (h : i < n) : (Array.replicate n x)[i]? = some x := by simp [h]
theorem make32 (w : World) : (Instr.makeSlice 22 (.int .i64 32) (.int .i64 32)).run Tryd.prog w = .ok (.slice (some ⟨w.heap.size, 0, none⟩) 32 32) (w.alloc (.cells (Array.replicate 32 (.int .u8 0)) 5)) := by kernel_rfl

set_option maxRecDepth 100000 in
set_option maxHeartbeats 2000000 in
theorem specRm_any (v : Value) (zs : List Int) (nm : ByteArray) (k : Nat) (w : World) (h : Rd .u8 w v zs) (hbd : ∀ z ∈ zs, 0 ≤ z ∧ z < 256) (hl : zs.length ≤ 262144) (h512 : zs.length % 512 = 0) (hf : firstK zs nm (zs.length / 32) = some k) :
    Calls Tryd.prog 47 #[v, .string nm] w fun e w' => ∃ v', e = .returned v' ∧ w'.ownsRow w.heap.size 5 1 v' (trimB (outZ zs k)).length ((trimB (outZ zs k)).map (Value.int .u8)) ∧ Below w.heap.size w w' := by
  have hsh := rd_cells h
  obtain ⟨b, off, a, cap, rfl, hcap, hcapm, hab⟩ := hsh
  have hkl : 32 * k + 32 ≤ zs.length := by have := (firstK_lt hf).1; omega
  obtain ⟨rfl, hbw, hcell⟩ := hab (by omega)
  have HR := hide h
  have HX := hide hbd
  have HCell := hide hcell
  have hat : atI zs nm = (k : Int) := by simp [atI, hf]
  have HAt := hide hat
  unfold maxLen at hcapm
  clear h hbd hab hcell hat hf
  have hmk := make32
  have hw1 : IntKind.i64.wrap (32 * (k : Int)) = 32 * (k : Int) := by rw [IntWalk.i64_left, IntWalk.wrap64_in _ (by omega)]
  have hw2 : IntKind.i64.wrap (32 * (k : Int) + 32) = 32 * (k : Int) + 32 := by rw [IntWalk.i64_left, IntWalk.wrap64_in _ (by omega)]
  have hk0 : (0 : Int) ≤ 32 * (k : Int) := by omega
  have hk1 : ¬ ((cap : Int) < 32 * (k : Int)) := by omega
  have hk2 : (0 : Int) ≤ 32 * (k : Int) + 32 := by omega
  have hk3 : ¬ ((zs.length : Int) < 32 * (k : Int) + 32) := by omega
  have hk4 : (32 * (k : Int) + 32) ≤ (zs.length : Int) := by omega
  have hk5 : (zs.length : Int) ≤ (cap : Int) := by omega
  have ht1 : (32 * (k : Int)).toNat = 32 * k := by omega
  have ht2 : (32 * (k : Int) + 32).toNat = 32 * k + 32 := by omega
  go_enter Tryd.func47, Tryd.ntmps47
  go_wp2_with (go_at_call 45; fail)
  refine (specAt_any _ zs nm _ HR.out HX.out hl (by omega)).mono ?_
  rintro e w1 ⟨rfl, b1⟩
  rw [HAt.out]
  have B1 := hide b1
  have hs1 := b1.size
  clear b1
  obtain ⟨p9, hp9⟩ : ∃ p9 : Option Addr, p9 = if cap = 32 * k + 32 then some ⟨b, off, none⟩ else some ⟨b, off + (32 * k + 32), none⟩ := ⟨_, rfl⟩
  have HR0 := hide (show Rd .u8 w1 (.slice (some ⟨b, off, none⟩) (32 * k) cap) (zs.take (32 * k)) from by
    have h := Rd.cut (zs := zs) (b := b) (off := off) (cap := cap) 0 (32 * k) (Nat.lt_of_lt_of_le hbw B1.out.size) (by unfold maxLen; omega) hcap (fun i hi => (B1.out.cell (p := ⟨b, off + i, none⟩) hbw).trans (HCell.out i hi)) (by omega)
    simpa using h)
  have HR9 := hide (show Rd .u8 w1 (.slice p9 (zs.length - (32 * k + 32)) (cap - (32 * k + 32))) (zs.drop (32 * k + 32)) from by
    by_cases hc : cap = 32 * k + 32
    · rw [hp9, if_pos hc]
      have e0 : zs.drop (32 * k + 32) = [] := List.drop_eq_nil_of_le (by omega)
      rw [e0, show zs.length - (32 * k + 32) = 0 by omega]
      exact ⟨_, _, rfl, by simp, fun h => absurd rfl h, by simp, by unfold maxLen; omega⟩
    · rw [hp9, if_neg hc]
      have h := Rd.cut (zs := zs) (b := b) (off := off) (cap := cap) (32 * k + 32) (zs.length - (32 * k + 32)) (Nat.lt_of_lt_of_le hbw B1.out.size) (by unfold maxLen; omega) hcap (fun i hi => (B1.out.cell (p := ⟨b, off + i, none⟩) hbw).trans (HCell.out i hi)) (by omega)
      rwa [List.take_of_length_le (by rw [List.length_drop]; omega)] at h)
  go_wp2_with fail
  refine wp_region_noPanic ?_
  refine wp_region_held_drew (S := fun w' => Below w1.heap.size w1 w') (by kernel_rfl) ((Below.refl _ _).drew) (fun hH => ?_)
  refine wpAnyH_take (i := 0) (oi := _) (v := (.slice (some ⟨b, off, none⟩) zs.length cap)) rfl (by kernel_rfl) (by kernel_rfl) (by kernel_rfl) (fun _ _ _ h => h) (Or.inl ⟨by rfl, fun w' hw' => by go_simp⟩) hH ?_
  try simp only [Act.put, List.getElem_toArray, List.getElem_cons_zero, List.getElem_cons_succ, List.setIfInBounds_toArray, List.set_cons_zero, List.set_cons_succ]
  refine wpAnyH_take (i := 1) (oi := _) (v := (.int .i64 (k : Int))) rfl (by kernel_rfl) (by kernel_rfl) (by kernel_rfl) (fun _ _ _ h => h) (Or.inl ⟨by rfl, fun w' hw' => by go_simp⟩) hH ?_
  try simp only [Act.put, List.getElem_toArray, List.getElem_cons_zero, List.getElem_cons_succ, List.setIfInBounds_toArray, List.set_cons_zero, List.set_cons_succ]
  refine wpAnyH_take (i := 2) (oi := _) (v := (.int .i64 (32 * (k : Int)))) rfl (by kernel_rfl) (by kernel_rfl) (by kernel_rfl) (fun _ _ _ h => h) (Or.inl ⟨by rfl, fun w' hw' => by go_simp⟩) hH ?_
  try simp only [Act.put, List.getElem_toArray, List.getElem_cons_zero, List.getElem_cons_succ, List.setIfInBounds_toArray, List.set_cons_zero, List.set_cons_succ]
  refine wpAnyH_take (i := 3) (oi := _) (v := (.slice (some ⟨b, off, none⟩) (32 * k) cap)) rfl (by kernel_rfl) (by kernel_rfl) (by kernel_rfl) (fun _ _ _ h => h) (Or.inl ⟨by rfl, fun w' hw' => by go_simp⟩) hH ?_
  try simp only [Act.put, List.getElem_toArray, List.getElem_cons_zero, List.getElem_cons_succ, List.setIfInBounds_toArray, List.set_cons_zero, List.set_cons_succ]
  refine wpAnyH_take (i := 5) (oi := _) (v := (.slice (some ⟨b, off, none⟩) zs.length cap)) rfl (by kernel_rfl) (by kernel_rfl) (by kernel_rfl) (fun _ _ _ h => h) (Or.inl ⟨by rfl, fun w' hw' => by go_simp⟩) hH ?_
  try simp only [Act.put, List.getElem_toArray, List.getElem_cons_zero, List.getElem_cons_succ, List.setIfInBounds_toArray, List.set_cons_zero, List.set_cons_succ]
  refine wpAnyH_take (i := 6) (oi := _) (v := (.int .i64 (k : Int))) rfl (by kernel_rfl) (by kernel_rfl) (by kernel_rfl) (fun _ _ _ h => h) (Or.inl ⟨by rfl, fun w' hw' => by go_simp⟩) hH ?_
  try simp only [Act.put, List.getElem_toArray, List.getElem_cons_zero, List.getElem_cons_succ, List.setIfInBounds_toArray, List.set_cons_zero, List.set_cons_succ]
  refine wpAnyH_take (i := 7) (oi := _) (v := (.int .i64 (32 * (k : Int)))) rfl (by kernel_rfl) (by kernel_rfl) (by kernel_rfl) (fun _ _ _ h => h) (Or.inl ⟨by rfl, fun w' hw' => by go_simp⟩) hH ?_
  try simp only [Act.put, List.getElem_toArray, List.getElem_cons_zero, List.getElem_cons_succ, List.setIfInBounds_toArray, List.set_cons_zero, List.set_cons_succ]
  refine wpAnyH_take (i := 8) (oi := _) (v := (.int .i64 (32 * (k : Int) + 32))) rfl (by kernel_rfl) (by kernel_rfl) (by kernel_rfl) (fun _ _ _ h => h) (Or.inl ⟨by rfl, fun w' hw' => by go_simp⟩) hH ?_
  try simp only [Act.put, List.getElem_toArray, List.getElem_cons_zero, List.getElem_cons_succ, List.setIfInBounds_toArray, List.set_cons_zero, List.set_cons_succ]
  refine wpAnyH_take (i := 9) (oi := _) (v := (.slice p9 (zs.length - (32 * k + 32)) (cap - (32 * k + 32)))) rfl (by kernel_rfl) (by kernel_rfl) (by kernel_rfl) (fun _ _ _ h => h) (Or.inl ⟨by rfl, fun w' hw' => by go_simp⟩) hH ?_
  try simp only [Act.put, List.getElem_toArray, List.getElem_cons_zero, List.getElem_cons_succ, List.setIfInBounds_toArray, List.set_cons_zero, List.set_cons_succ]
  refine wpAnyH_ready (rs := [4]) (by kernel_rfl) (by simp) ?_
  refine AllReadyH.cons (o := _) rfl (fun K hK => ?_) AllReadyH.nil
  go_simp
  have A4 := hide (show Below w1.heap.size w1 (w1.drew.alloc (.cells (Array.replicate 32 (.int .u8 0)) 5)) from (Below.refl w1.heap.size w1).drew.alloc (Nat.le_refl _) _)
  refine hK.out _ _ A4.out (fun hH4 => ?_)
  clear hK K hH
  try simp only [Act.put, List.getElem_toArray, List.getElem_cons_zero, List.getElem_cons_succ, List.setIfInBounds_toArray, List.set_cons_zero, List.set_cons_succ]
  refine wpAnyH_ready (rs := [10]) (by kernel_rfl) (by simp) ?_
  refine AllReadyH.cons (o := _) rfl (fun K hK => ?_) AllReadyH.nil
  go_simp
  rw [← hp9]
  clear hp9
  obtain ⟨w3, hw3⟩ : ∃ w3, w3 = ((w1.alloc (.cells (Array.replicate 32 (.int .u8 0)) 5)).alloc (.cells #[.slice (some ⟨b, off, none⟩) (32 * k) cap, .slice (some ⟨w1.heap.size, 0, none⟩) 32 32, .slice p9 (zs.length - (32 * k + 32)) (cap - (32 * k + 32))] 22)).drew := ⟨_, rfl⟩
  have A3 := hide (show Below w1.heap.size w1 w3 from by rw [hw3]; exact (((Below.refl w1.heap.size w1).alloc (Nat.le_refl _) _).alloc (by simp) _).drew)
  have hs3 : w3.heap.size = w1.heap.size + 1 + 1 := by rw [hw3]; show ((w1.alloc _).alloc _).heap.size = _; simp
  have HC3 := hide (show ∀ j u, ([.slice (some ⟨b, off, none⟩) (32 * k) cap, .slice (some ⟨w1.heap.size, 0, none⟩) 32 32, .slice p9 (zs.length - (32 * k + 32)) (cap - (32 * k + 32))] : List Value)[j]? = some u → w3.cell? ⟨w1.heap.size + 1, j, none⟩ = some u from by
    have h := cells_newD (w1.alloc (.cells (Array.replicate 32 (.int .u8 0)) 5)) #[.slice (some ⟨b, off, none⟩) (32 * k) cap, .slice (some ⟨w1.heap.size, 0, none⟩) 32 32, .slice p9 (zs.length - (32 * k + 32)) (cap - (32 * k + 32))] 22
    rw [World.size_alloc] at h
    intro j u hj
    have h2 := h j u hj
    rw [Addr.add_mid, Nat.zero_add] at h2
    rw [hw3]
    exact h2)
  have HZ3 := hide (show Rd .u8 w3 (.slice (some ⟨w1.heap.size, 0, none⟩) 32 32) (List.replicate 32 0) from by
    refine ⟨_, _, rfl, by simp [maxLen], fun _ => ⟨w1.heap.size, 0, rfl, by omega, fun i hi => ?_⟩, by simp, by unfold maxLen; omega⟩
    have hB : Blk w3 w1.heap.size (Array.replicate 32 (.int .u8 0)) 5 := by rw [hw3]; exact (Blk.new w1 _ _).alloc _
    simp only [List.length_replicate] at hi
    rw [hB.cell (0 + i), Nat.zero_add]
    rw [rep_getA 32 i _ hi, rep_getD 32 i hi])
  have HAll := hide (show AllRd w3 [.slice (some ⟨b, off, none⟩) (32 * k) cap, .slice (some ⟨w1.heap.size, 0, none⟩) 32 32, .slice p9 (zs.length - (32 * k + 32)) (cap - (32 * k + 32))] [zs.take (32 * k), List.replicate 32 0, zs.drop (32 * k + 32)] from ⟨HR0.out.below A3.out, HZ3.out, HR9.out.below A3.out, trivial⟩)
  have HFl := hide (show ([zs.take (32 * k), List.replicate 32 0, zs.drop (32 * k + 32)] : List (List Int)).flatten = outZ zs k from by unfold outZ; simp)
  rw [← hw3]
  clear hw3
  refine hK.out _ _ A3.out (fun hH10 => ?_)
  clear hK K hH4 A4
  try simp only [Act.put, List.getElem_toArray, List.getElem_cons_zero, List.getElem_cons_succ, List.setIfInBounds_toArray, List.set_cons_zero, List.set_cons_succ]
  refine wpAnyH_ready (rs := [11]) (by kernel_rfl) (by simp) ?_
  refine AllReadyH.cons (o := _) rfl (fun K hK => ?_) AllReadyH.nil
  go_simp
  refine (joinZ_any (w1.heap.size + 1) 3 3 [.slice (some ⟨b, off, none⟩) (32 * k) cap, .slice (some ⟨w1.heap.size, 0, none⟩) 32 32, .slice p9 (zs.length - (32 * k + 32)) (cap - (32 * k + 32))] [zs.take (32 * k), List.replicate 32 0, zs.drop (32 * k + 32)] w3 HC3.out HAll.out rfl (by omega) (by rw [HFl.out, outZ_len hkl]; omega) (by omega)).mono ?_
  rintro e w4 ⟨v4, rfl, o4, b4⟩
  rw [HFl.out] at o4
  have A5 := hide (A3.out.trans (b4.mono A3.out.size))
  have O4 := hide (own_mono o4 (show w.heap.size ≤ w3.heap.size by omega))
  refine hK.out _ _ A5.out (fun hH11 => ?_)
  clear hK K hH10 o4 b4 A3 HC3 HZ3 HAll HFl HR0 HR9
  try simp only [Act.put, List.getElem_toArray, List.getElem_cons_zero, List.getElem_cons_succ, List.setIfInBounds_toArray, List.set_cons_zero, List.set_cons_succ]
  refine wpAnyH_take (i := 12) (oi := _) (v := v4) rfl (by kernel_rfl) (by kernel_rfl) (by kernel_rfl) (fun _ _ _ h => h) (Or.inl ⟨by rfl, fun w' hw' => by go_simp⟩) hH11 ?_
  try simp only [Act.put, List.getElem_toArray, List.getElem_cons_zero, List.getElem_cons_succ, List.setIfInBounds_toArray, List.set_cons_zero, List.set_cons_succ]
  refine wpAnyH_done (by kernel_rfl) (NoPanic.normal ?_) _
  have B4 := hide (B1.out.trans (A5.out.mono B1.out.size))
  have HL0 := hide (outZ_len hkl)
  clear hH11 A5 B1
  go_wp2_with fail
  obtain ⟨g, cp, rfl, hg1, hg2, _⟩ := own_sliceD O4.out (by rw [HL0.out]; omega)
  go_loopw [6] (fun o wr => ∃ M : List Int, M.length ≤ 262144 ∧ M.length % 512 = 0 ∧ trimB M = trimB (outZ zs k) ∧ o = .slice (some ⟨g, 0, none⟩) M.length cp ∧ wr.ownsRow w.heap.size 5 1 (.slice (some ⟨g, 0, none⟩) M.length cp) M.length (M.map (Value.int .u8)) ∧ Below w.heap.size w wr) (fun o _ => match o with | .slice _ l _ => l | _ => 0)
  case atStart => exact ⟨outZ zs k, by rw [HL0.out]; omega, by rw [HL0.out]; omega, rfl, rfl, O4.out, B4.out⟩
  case round =>
    clear O4 B4 HL0
    obtain ⟨M, hM1, hM2, htr, rfl, hown, hbl⟩ := hrel
    have HOw := hide hown
    have HBl := hide hbl
    have HTr := hide htr
    clear hown hbl htr
    obtain ⟨n, hnM⟩ : ∃ n, n = M.length := ⟨_, rfl⟩
    by_cases hp : 0 < M.length
    · obtain ⟨bd, of2, c2, e2, hbw2, hcl, hcm, hcell2⟩ := (Rd.own HOw.out).partsC hp
      injection e2 with e3 _ e4
      injection e3 with e3
      injection e3 with e3 e5 _
      subst e3 e4 e5
      have HRd := hide (show Rd .u8 wr (.slice (some ⟨g, 0 + (M.length - 512), none⟩) 512 (cp - (M.length - 512))) (M.drop (M.length - 512)) from by
        have h := Rd.cut (zs := M) (b := g) (off := 0) (cap := cp) (M.length - 512) 512 hbw2 hcm hcl hcell2 (by omega)
        rwa [List.take_of_length_le (by rw [List.length_drop]; omega)] at h)
      rw [Nat.zero_add] at HRd
      have HNM := hide hnM
      unfold maxLen at hcm
      rw [← hnM] at HRd hcl hM1 hM2 hp ⊢
      have h5 : 512 ≤ n := by omega
      have hq1 : ¬ cp = n - 512 := by omega
      have hq2 : (512 : Int) ≤ (n : Int) := by omega
      have hq3 : (n : Int) ≤ (cp : Int) := by omega
      have hq4 : n - (n - 512) = 512 := by omega
      have hp2 : (0 : Int) < (n : Int) := by omega
      clear hcell2 hnM
      go_wp2_with (go_at_call 53; fail)
      refine (zeroBytes_any _ (M.drop (n - 512)) _ HRd.out).mono ?_
      rintro e w5 ⟨rfl, rfl⟩
      cases hz : allZ (M.drop (n - 512)) with
      | false =>
        have HZ := hide hz
        clear hz
        go_wp2
        go_ret
        refine ⟨.slice (some ⟨g, 0, none⟩) n cp, rfl, ?_, HBl.out⟩
        rw [← HTr.out, trimB_stop (by rw [← HNM.out, HZ.out]; simp)]
        have h := HOw.out
        rw [← HNM.out] at h ⊢
        exact h
      | true =>
        have HZ := hide (show trimB M = trimB (M.take (n - 512)) from by rw [HNM.out]; exact trimB_step (by rw [← HNM.out]; exact h5) (by rw [← HNM.out]; exact hz))
        have HO6 := hide (show w5.ownsRow w.heap.size 5 1 (.slice (some ⟨g, 0, none⟩) (n - 512) cp) (n - 512) ((M.take (n - 512)).map (Value.int .u8)) from by
          rw [List.map_take]
          exact own_cut1 HOw.out (by rw [← HNM.out]; omega))
        have HLT := hide (show (M.take (n - 512)).length = n - 512 from by rw [List.length_take, ← HNM.out]; omega)
        clear hz
        go_wp2
        go_roundw
        case rel => exact ⟨M.take (n - 512), by rw [HLT.out]; omega, by rw [HLT.out]; omega, by rw [← HZ.out]; exact HTr.out, by rw [HLT.out], by rw [HLT.out]; exact HO6.out, HBl.out⟩
        case measure => show n - 512 < n; omega
    · have HNM := hide hnM
      obtain rfl : n = 0 := by omega
      rw [← hnM] at hM1 hM2 hp ⊢
      clear hnM
      go_wp2
      go_ret
      refine ⟨.slice (some ⟨g, 0, none⟩) 0 cp, rfl, ?_, HBl.out⟩
      rw [← HTr.out, trimB_stop (by have := HNM.out; omega)]
      have h := HOw.out
      rw [← HNM.out] at h ⊢
      exact h
end Go.Proofs.YtcciaojdceejcaaDoor

namespace Go.Proofs.YtcciaojdceejcaaDoor
set_option linter.unusedVariables false
set_option linter.unusedSimpArgs false
open Go.RowKit

/-- An entry that can be laid, whose bytes are zeros if and only if it is empty. -/
def goodE (e : ByteArray × Int × Int) : Prop := okE e ∧ zE e = allZ (entB e)
theorem bytesE_append (A B : List (ByteArray × Int × Int)) : bytesE (A ++ B) = bytesE A ++ bytesE B := by simp [bytesE]
theorem bytesE_cut {L : List (ByteArray × Int × Int)} (h : ∀ e ∈ L, okE e) (m : Nat) (hm : m ≤ L.length) : bytesE (L.take m) = (bytesE L).take (m * 32) ∧ bytesE (L.drop m) = (bytesE L).drop (m * 32) := by
  have e1 : bytesE L = bytesE (L.take m) ++ bytesE (L.drop m) := by rw [← bytesE_append, List.take_append_drop]
  have e2 : (bytesE (L.take m)).length = m * 32 := by
    rw [bytesE_len _ (fun e he => h e (List.mem_of_mem_take he)), List.length_take, Nat.min_eq_left hm]
  constructor
  · rw [e1, List.take_left' e2]
  · rw [e1, List.drop_left' e2]
theorem allZ_bytes : ∀ L : List (ByteArray × Int × Int), (∀ e ∈ L, goodE e) → allZ (bytesE L) = L.all zE
  | [], _ => rfl
  | e :: L, h => by
    have ih := allZ_bytes L (fun x hx => h x (List.mem_cons_of_mem _ hx))
    have h1 := (h e List.mem_cons_self).2
    rw [List.all_cons, ← ih, h1, show bytesE (e :: L) = entB e ++ bytesE L from by simp [bytesE]]
    unfold allZ
    rw [List.all_append]
theorem trimE_pre : ∀ (n : Nat) (L : List (ByteArray × Int × Int)), L.length = n → ∃ m, m ≤ L.length ∧ trimE L = L.take m := by
  intro n
  induction n using Nat.strongRecOn with
  | ind n ih =>
    intro L hL
    by_cases hc : 16 ≤ L.length ∧ (L.drop (L.length - 16)).all zE = true
    · obtain ⟨m, h1, h2⟩ := ih (L.take (L.length - 16)).length (by rw [List.length_take]; omega) _ rfl
      rw [List.length_take] at h1
      refine ⟨m, by omega, ?_⟩
      rw [trimE_step hc.1 hc.2, h2, List.take_take]
      congr 1
      omega
    · exact ⟨L.length, Nat.le_refl _, by rw [trimE_stop hc, List.take_length]⟩
theorem trim_same : ∀ (n : Nat) (L : List (ByteArray × Int × Int)), L.length = n → (∀ e ∈ L, goodE e) → bytesE (trimE L) = trimB (bytesE L) := by
  intro n
  induction n using Nat.strongRecOn with
  | ind n ih =>
    intro L hL hg
    have hok : ∀ e ∈ L, okE e := fun e he => (hg e he).1
    have hlen := bytesE_len L hok
    have hcut := bytesE_cut hok (L.length - 16) (by omega)
    have hall : (L.drop (L.length - 16)).all zE = allZ ((bytesE L).drop ((L.length - 16) * 32)) := by
      rw [← hcut.2, allZ_bytes _ (fun e he => hg e (List.mem_of_mem_drop he))]
    by_cases h16 : 16 ≤ L.length
    · have e5 : (bytesE L).length - 512 = (L.length - 16) * 32 := by rw [hlen]; omega
      cases hz : (L.drop (L.length - 16)).all zE with
      | true =>
        rw [trimE_step h16 hz, trimB_step (L := bytesE L) (by rw [hlen]; omega) (by rw [e5, ← hall, hz]), e5, ← hcut.1]
        exact ih _ (by rw [List.length_take]; omega) _ rfl (fun e he => hg e (List.mem_of_mem_take he))
      | false =>
        rw [trimE_stop (by rw [hz]; simp), trimB_stop (L := bytesE L) (by rw [e5, ← hall, hz]; simp)]
    · rw [trimE_stop (by omega), trimB_stop (L := bytesE L) (by rw [hlen]; omega)]
theorem good_zero : goodE (⟨#[]⟩, 0, 0) := by
  refine ⟨⟨by decide, by decide, by decide, by decide, by decide⟩, ?_⟩
  show zE (⟨#[]⟩, 0, 0) = allZ (slotB ⟨#[]⟩ 0 0)
  rw [slotB_zero, show zE (⟨#[]⟩, 0, 0) = true from (entEq_iff _ _ _).2 ⟨by simp [ByteArray.toList_empty], rfl, rfl⟩]
  simp [allZ]
theorem slot_len {zs : List Int} {k : Nat} (h : k * 32 + 32 ≤ zs.length) : (slotK zs k).length = 32 := by
  unfold slotK
  rw [List.length_take, List.length_drop]
  omega
theorem entB_slot {zs : List Int} {k : Nat} (hl : k * 32 + 32 ≤ zs.length) (hbd : ∀ z ∈ zs, 0 ≤ z ∧ z < 256) (h : (sZero (slotK zs k) || sRight (slotK zs k)) = true) : entB (slotE zs k) = slotK zs k ∧ goodE (slotE zs k) := by
  have h32 := slot_len hl
  have hb : ∀ z ∈ slotK zs k, 0 ≤ z ∧ z < 256 := fun z hz => hbd z (List.mem_of_mem_drop (List.mem_of_mem_take hz))
  have hzE := zE_slot h
  cases hz : sZero (slotK zs k) with
  | true =>
    have e : slotE zs k = (⟨#[]⟩, 0, 0) := by unfold slotE; rw [if_pos hz]
    refine ⟨?_, by rw [e]; exact good_zero⟩
    rw [e]
    show slotB ⟨#[]⟩ 0 0 = _
    rw [slotB_zero]
    symm
    rw [List.eq_replicate_iff]
    exact ⟨h32, (sZero_iff _).1 hz⟩
  | false =>
    have hr : sRight (slotK zs k) = true := by rw [hz, Bool.false_or] at h; exact h
    have hr2 := hr
    unfold sRight at hr2
    simp only [Bool.and_eq_true, decide_eq_true_eq] at hr2
    obtain ⟨hL, hRest, ⟨hI, hK⟩, _⟩ := hr2
    have e : slotE zs k = (sName (slotK zs k), (sIno (slotK zs k) : Int), (sKind (slotK zs k) : Int)) := by unfold slotE; rw [if_neg (by rw [hz]; decide)]
    have e2 : entB (slotE zs k) = slotK zs k := by
      rw [e]
      show slotB (sName (slotK zs k)) ((sIno (slotK zs k) : Int)).toNat ((sKind (slotK zs k) : Int)).toNat = _
      rw [Int.toNat_natCast, Int.toNat_natCast]
      exact (slotB_self h32 hb hL).2 hRest
    refine ⟨e2, ?_, ?_⟩
    · rw [e]
      unfold wi at hI hK
      simp only [Bool.and_eq_true, decide_eq_true_eq] at hI hK
      have := sName_size h32 hL
      exact ⟨by show (sName (slotK zs k)).size ≤ 26; omega, by show (0 : Int) ≤ (sIno (slotK zs k) : Int); omega, by show (sIno (slotK zs k) : Int) < _; omega, by show (0 : Int) ≤ (sKind (slotK zs k) : Int); omega, by show (sKind (slotK zs k) : Int) < _; omega⟩
    · rw [hzE, e2]
      rfl
theorem bytes_slots {zs : List Int} (hbd : ∀ z ∈ zs, 0 ≤ z ∧ z < 256) {n : Nat} (hn : n * 32 ≤ zs.length) (h : ∀ j, j < n → (sZero (slotK zs j) || sRight (slotK zs j)) = true) : bytesE (slotsL zs n) = zs.take (n * 32) := by
  induction n with
  | zero => simp [slotsL, bytesE]
  | succ n ih =>
    rw [slotsL_succ, bytesE_append, ih (by omega) (fun j hj => h j (by omega)), show bytesE [slotE zs n] = entB (slotE zs n) from by simp [bytesE], (entB_slot (by omega) hbd (h n (by omega))).1]
    unfold slotK
    rw [show (n + 1) * 32 = n * 32 + 32 by omega, List.take_add]
theorem slots_good {zs : List Int} (hbd : ∀ z ∈ zs, 0 ≤ z ∧ z < 256) {n : Nat} (hn : n * 32 ≤ zs.length) (h : ∀ j, j < n → (sZero (slotK zs j) || sRight (slotK zs j)) = true) : ∀ e ∈ slotsL zs n, goodE e := by
  intro e he
  unfold slotsL at he
  rw [List.mem_map] at he
  obtain ⟨j, hj, rfl⟩ := he
  rw [List.mem_range] at hj
  exact (entB_slot (by omega) hbd (h j hj)).2
/-- The bytes behind a removal. -/
theorem removed_same {zs : List Int} (hbd : ∀ z ∈ zs, 0 ≤ z ∧ z < 256) {n k : Nat} (hn : zs.length = n * 32) (hk : k < n) (h : ∀ j, j < n → (sZero (slotK zs j) || sRight (slotK zs j)) = true) :
    (∀ e ∈ trimE ((slotsL zs n).set k (⟨#[]⟩, 0, 0)), okE e) ∧ (trimE ((slotsL zs n).set k (⟨#[]⟩, 0, 0))).length ≤ n ∧ bytesE (trimE ((slotsL zs n).set k (⟨#[]⟩, 0, 0))) = trimB (outZ zs k) := by
  have hg := slots_good hbd (by omega) h
  have hg2 : ∀ e ∈ (slotsL zs n).set k (⟨#[]⟩, 0, 0), goodE e := fun e he => by
    rcases List.mem_or_eq_of_mem_set he with h1 | h1
    · exact hg e h1
    · rw [h1]; exact good_zero
  have hln : (slotsL zs n).length = n := slotsL_len zs n
  obtain ⟨m, hm1, hm2⟩ := trimE_pre _ ((slotsL zs n).set k (⟨#[]⟩, 0, 0)) rfl
  refine ⟨fun e he => (hg2 e (by rw [hm2] at he; exact List.mem_of_mem_take he)).1, by rw [hm2, List.length_take, List.length_set, hln]; omega, ?_⟩
  rw [trim_same _ _ rfl hg2]
  congr 1
  have hb := bytes_slots hbd (n := n) (by omega) h
  rw [List.take_of_length_le (by omega)] at hb
  have hok : ∀ e ∈ slotsL zs n, okE e := fun e he => (hg e he).1
  have c1 := (bytesE_cut hok k (by omega)).1
  have c2 := (bytesE_cut hok (k + 1) (by omega)).2
  rw [List.set_eq_take_append_cons_drop, if_pos (by omega), bytesE_append, c1, hb]
  show zs.take (k * 32) ++ bytesE ([(⟨#[]⟩, 0, 0)] ++ (slotsL zs n).drop (k + 1)) = _
  rw [bytesE_append, c2, hb, show bytesE [(⟨#[]⟩, 0, 0)] = List.replicate 32 0 from by
    show slotB ⟨#[]⟩ 0 0 ++ [] = _
    rw [slotB_zero, List.append_nil]]
  unfold outZ
  rw [show 32 * k = k * 32 by omega, show k * 32 + 32 = (k + 1) * 32 by omega]
end Go.Proofs.YtcciaojdceejcaaDoor

namespace Go.Proofs.YtcciaojdceejcaaDoor
set_option linter.unusedVariables false
set_option linter.unusedSimpArgs false
open Go.RowKit

/-- What DirRemove answers beside the code (dfC). -/
def drB (zs : List Int) (nm : ByteArray) : List Int := if dirOk zs = true then (match firstK zs nm (zs.length / 32) with | some k => trimB (outZ zs k) | none => []) else []
theorem drB_bad {zs : List Int} {nm : ByteArray} (h : dirOk zs = false) : drB zs nm = [] := by simp [drB, h]
theorem drB_none {zs : List Int} {nm : ByteArray} (h : dirOk zs = true) (hf : firstK zs nm (zs.length / 32) = none) : drB zs nm = [] := by simp [drB, h, hf]
theorem drB_some {zs : List Int} {nm : ByteArray} {k : Nat} (h : dirOk zs = true) (hf : firstK zs nm (zs.length / 32) = some k) : drB zs nm = trimB (outZ zs k) := by simp [drB, h, hf]
theorem own_nilB (w : World) (base : Nat) : w.ownsRow base 5 1 (.slice none 0 0) 0 [] := ⟨by simp, .inl ⟨rfl, rfl⟩⟩
theorem trimB_le : ∀ (n : Nat) (L : List Int), L.length = n → (trimB L).length ≤ L.length := by
  intro n
  induction n using Nat.strongRecOn with
  | ind n ih =>
    intro L hL
    by_cases hc : 512 ≤ L.length ∧ allZ (L.drop (L.length - 512)) = true
    · rw [trimB_step hc.1 hc.2]
      have := ih (L.take (L.length - 512)).length (by rw [List.length_take]; omega) _ rfl
      rw [List.length_take] at this
      omega
    · rw [trimB_stop hc]
      exact Nat.le_refl _
theorem drB_len (zs : List Int) (nm : ByteArray) : (drB zs nm).length ≤ zs.length := by
  cases hok : dirOk zs with
  | false => rw [drB_bad hok]; simp
  | true =>
    cases hf : firstK zs nm (zs.length / 32) with
    | none => rw [drB_none hok hf]; simp
    | some k =>
      rw [drB_some hok hf]
      have h1 := trimB_le _ (outZ zs k) rfl
      have h2 := (firstK_lt hf).1
      rw [outZ_len (by omega)] at h1
      exact h1

set_option maxRecDepth 100000 in
set_option maxHeartbeats 1000000 in
theorem specDR_any (v : Value) (zs : List Int) (nm : ByteArray) (w : World) (h : Rd .u8 w v zs) (hbd : ∀ z ∈ zs, 0 ≤ z ∧ z < 256) :
    Calls Tryd.prog 25 #[v, .string nm] w fun e w' => ∃ v', e = .returned (.tuple #[v', .int .i64 (dfC zs nm)]) ∧ w'.ownsRow w.heap.size 5 1 v' (drB zs nm).length ((drB zs nm).map (Value.int .u8)) ∧ Below w.heap.size w w' := by
  have hsh : ∃ a cap, v = .slice a zs.length cap := by obtain ⟨a, cap, h1, _⟩ := h; exact ⟨a, cap, h1⟩
  obtain ⟨a, cap, rfl⟩ := hsh
  have HR := hide h
  have HX := hide hbd
  clear h hbd
  go_enter Tryd.func25, Tryd.ntmps25
  go_wp2_with (go_at_call 9; fail)
  refine (specDC_any _ zs _ HR.out HX.out).mono ?_
  rintro e w1 ⟨rfl, b1⟩
  have B1 := hide b1
  clear b1
  cases hok : dirOk zs with
  | false =>
    have HD := hide (df_bad (nm := nm) hok)
    have HB := hide (drB_bad (nm := nm) hok)
    have hcd : codeDC zs = 21 := by simp [codeDC, hok]
    rw [hcd]
    clear hok hcd
    go_wp2
    go_ret2
    rw [HD.out.2.2, HB.out]
    exact ⟨_, rfl, own_nilB _ _, B1.out⟩
  | true =>
    have hcd : codeDC zs = 0 := by simp [codeDC, hok]
    rw [hcd]
    have HL := hide (dirOk_len hok)
    have HOk := hide hok
    clear hok hcd
    go_wp2_with (go_at_call 45; fail)
    refine (specAt_any _ zs nm _ (HR.out.below B1.out) HX.out HL.out.2 (by have := HL.out.1; omega)).mono ?_
    rintro e w2 ⟨rfl, b2⟩
    have B2 := hide (B1.out.trans (b2.mono B1.out.size))
    clear b2 B1
    cases hf : firstK zs nm (zs.length / 32) with
    | none =>
      have HD := hide (df_none HOk.out hf)
      have HB := hide (drB_none HOk.out hf)
      have hat : atI zs nm = -1 := by simp [atI, hf]
      rw [hat]
      clear hf hat
      go_wp2
      go_ret2
      rw [HD.out.2.2, HB.out]
      exact ⟨_, rfl, own_nilB _ _, B2.out⟩
    | some k =>
      have HD := hide (df_some HOk.out hf)
      have HB := hide (drB_some HOk.out hf)
      have HF := hide hf
      have hat : atI zs nm = (k : Int) := by simp [atI, hf]
      rw [hat]
      clear hf hat
      go_wp2_with (go_at_call 47; fail)
      refine (specRm_any _ zs nm k _ (HR.out.below B2.out) HX.out HL.out.2 HL.out.1 HF.out).mono ?_
      rintro e w3 ⟨v3, rfl, o3, b3⟩
      have O3 := hide (own_mono o3 B2.out.size)
      have B3 := hide (B2.out.trans (b3.mono B2.out.size))
      clear o3 b3 B2
      go_wp2
      go_ret2
      rw [HD.out.2.2, HB.out]
      exact ⟨_, rfl, O3.out, B3.out⟩

set_option maxRecDepth 100000 in
set_option maxHeartbeats 1000000 in
theorem implDR_any (v : Value) (zs : List Int) (nm : ByteArray) (w : World) (h : Rd .u8 w v zs) (hbd : ∀ z ∈ zs, 0 ≤ z ∧ z < 256) (hnm : nm.size ≤ maxLen) (hg : ErrT w) :
    Calls Tryd.prog 21 #[v, .string nm] w fun e w' => ∃ v', e = .returned (.tuple #[v', .int .i64 (dfC zs nm)]) ∧ w'.ownsRow w.heap.size 5 1 v' (drB zs nm).length ((drB zs nm).map (Value.int .u8)) ∧ Below w.heap.size w w' := by
  have hsh : ∃ a cap, v = .slice a zs.length cap := by obtain ⟨a, cap, h1, _⟩ := h; exact ⟨a, cap, h1⟩
  obtain ⟨a, cap, rfl⟩ := hsh
  have HR := hide h
  have HX := hide hbd
  have HG := hide hg
  clear h hbd hg
  go_enter Tryd.func21, Tryd.ntmps21
  go_wp2_with (go_at_call 36; fail)
  refine (openDir_all Unit cap a zs _ HR.out HX.out).mono ?_
  rintro e w1 ⟨v1, ev, rfl, hf, b1, hd⟩
  have B1 := hide b1
  clear b1
  rcases hf with ⟨hok, rfl⟩ | ⟨hok, m, hF⟩
  · obtain ⟨d, mb, nn, v', rfl, hdl, hdm, hnn, hdr⟩ := hd hok
    have HL := hide (dirOk_len hok)
    have HOk := hide hok
    have HDr := hide hdr
    have cM : w1.cell? ⟨d, 1, none⟩ = some (.map (some mb)) := (hdr.blk.cell 1).trans rfl
    obtain ⟨lc, hlk, hat⟩ := lookK hdr.map nm hnm
    have hes : ∃ es, entT zs (zs.length / 32) = some es := by
      have h := hok
      rw [dirOk_eq HL.out.1 HL.out.2, Bool.and_eq_true] at h
      exact Option.isSome_iff_exists.1 h.1
    obtain ⟨es, hes⟩ := hes
    obtain ⟨hm1, hm2⟩ := map_first Unit nm hes
    rw [hm1] at hlk
    clear hd hok hdr hm1
    cases hf : firstK zs nm (zs.length / 32) with
    | none =>
      have HD := hide (df_none HOk.out hf)
      have HB := hide (drB_none HOk.out hf)
      rw [hf] at hlk
      have hlk2 : (Instr.lookup 66 (.map (some mb)) (.string nm) true).run Tryd.prog w1 = .ok (.tuple #[.int .i64 lc, .bool false]) w1 := hlk
      clear hf hlk hat hm2 hes
      go_wp2
      go_ret2
      rw [HD.out.2.2, HB.out]
      exact ⟨_, rfl, own_nilB _ _, B1.out⟩
    | some k =>
      have HD := hide (df_some HOk.out hf)
      have HB := hide (drB_some HOk.out hf)
      have hlc : lc = (k : Int) := by
        have h1 := hm2 k hf
        rw [hat] at h1
        injection h1 with h1
        injection h1
      rw [hf, hlc] at hlk
      rw [hlc] at hat
      have hlk2 : (Instr.lookup 66 (.map (some mb)) (.string nm) true).run Tryd.prog w1 = .ok (.tuple #[.int .i64 (k : Int), .bool true]) w1 := hlk
      have hkN := (firstK_lt hf).1
      have hN8 : zs.length / 32 ≤ 8192 := by have := HL.out.2; omega
      have HSm := hide (removed_same HX.out (show zs.length = zs.length / 32 * 32 by have := HL.out.1; omega) hkN (entT_ok hes))
      have HAt := hide hat
      have HLn := hide (slotsL_len zs (zs.length / 32))
      have HDr2 := hide (show Dr (H := Unit) w.heap.size w1 d mb (slotsL zs (zs.length / 32)).length nn v' (entsI (slotsL zs (zs.length / 32))) (mapR Unit zs (List.range (zs.length / 32)).reverse) from by rw [HLn.out]; exact HDr.out)
      clear hf hlk hat hm2 hes hlc HDr
      go_wp2_with (go_at_call 43; fail)
      refine (remove_any (H := Unit) w.heap.size _ d mb nn k v' (slotsL zs (zs.length / 32)) _ nm HDr2.out (by rw [HLn.out]; exact hN8) (by rw [HLn.out]; exact hkN) hnm HAt.out hdl hdm).mono ?_
      rintro e w2 ⟨rfl, ⟨v2, D2, hD2⟩, b2⟩
      have HD2 := hide hD2
      have B2 := hide (B1.out.trans b2)
      clear hD2 b2 B1 HDr2 cM hlk2
      go_wp2_with (go_at_call 42; fail)
      refine (bytesD_any (H := Unit) w.heap.size _ d mb nn v2 _ D2 HD2.out (Nat.le_trans HSm.out.2.1 hN8) HSm.out.1).mono ?_
      rintro e w3 ⟨v3, rfl, o3, b3⟩
      have O3 := hide (show w3.ownsRow w.heap.size 5 1 v3 (trimB (outZ zs k)).length ((trimB (outZ zs k)).map (Value.int .u8)) from by
        have h := own_mono o3 B2.out.size
        rw [← bytesE_len _ HSm.out.1, HSm.out.2.2] at h
        exact h)
      have B3 := hide (B2.out.trans (b3.mono B2.out.size))
      clear o3 b3 B2
      go_wp2
      go_ret2
      rw [HD.out.2.2, HB.out]
      exact ⟨_, rfl, O3.out, B3.out⟩
  · obtain ⟨t6, x6, rfl⟩ := hF.iface
    have HD := hide (df_bad (nm := nm) hok)
    have HB := hide (drB_bad (nm := nm) hok)
    have HF := hide hF
    clear hd hok hF
    go_wp2_with (go_at_call 37; fail)
    refine (codeOf_any m _ 21 _ _ HF.out (HG.out.below B1.out)).mono ?_
    rintro e w2 ⟨rfl, b2⟩
    have B2 := hide (B1.out.trans (b2.mono B1.out.size))
    clear b2 B1
    go_wp2
    go_ret2
    rw [HD.out.2.2, HB.out]
    exact ⟨_, rfl, own_nilB _ _, B2.out⟩
end Go.Proofs.YtcciaojdceejcaaDoor

namespace Go.Proofs.YtcciaojdceejcaaDoor
set_option linter.unusedVariables false
set_option linter.unusedSimpArgs false
open Go.RowKit

set_option maxRecDepth 100000 in
set_option maxHeartbeats 2000000 in
theorem lawDirR (v : Value) (zs : List Int) (nm : ByteArray) (w : World) (h : Rd .u8 w v zs) (hbd : ∀ z ∈ zs, 0 ≤ z ∧ z < 256) (hnm : nm.size ≤ maxLen) (hg : ErrT w) :
    Calls Tryd.prog 6 #[v, .string nm] w fun e w' => e = .returned (.bool true) ∧ Below w.heap.size w w' := by
  have hm := h.len
  have hq := hnm
  unfold maxLen at hm hq
  have hsh : ∃ a cap, v = .slice a zs.length cap := by obtain ⟨a, cap, h1, _⟩ := h; exact ⟨a, cap, h1⟩
  obtain ⟨a0, cap0, rfl⟩ := hsh
  have H := hide (And.intro h hg)
  clear h hg
  by_cases hbig : (1048576 : Int) < (zs.length : Int)
  · go_enter Tryd.func6, Tryd.ntmps6
    go_wp2
    go_ret
    exact ⟨rfl, Below.refl _ _⟩
  by_cases hbig2 : (1048576 : Int) < (nm.size : Int)
  · go_enter Tryd.func6, Tryd.ntmps6
    go_wp2
    go_ret
    exact ⟨rfl, Below.refl _ _⟩
  have hsm : zs.length ≤ 1048576 := by omega
  have hsn : nm.size ≤ 1048576 := by omega
  clear hbig hbig2 hm hq
  have HS := hide (fun (v : Value) (w : World) (hr : Rd .u8 w v zs) => specDR_any v zs nm w hr hbd)
  have HI := hide (fun (v : Value) (w : World) (hr : Rd .u8 w v zs) (hg : ErrT w) => implDR_any v zs nm w hr hbd hnm hg)
  have hR : (drB zs nm).length ≤ 1048576 := Nat.le_trans (drB_len zs nm) hsm
  generalize drB zs nm = R at HS HI hR
  generalize dfC zs nm = c at HS HI
  have hcc : (c != c) = false := by simp
  obtain ⟨K1, hK1⟩ : ∃ K : Nat, K = 1 + zs.length := ⟨_, rfl⟩
  have hK1b : K1 ≤ 1048577 := by omega
  obtain ⟨M, hM⟩ : ∃ K : Nat, K = 1 + R.length := ⟨_, rfl⟩
  have hMb : M ≤ 1048577 := by omega
  have HK1 := hide hK1
  have HM := hide hM
  clear hK1 hM hbd hnm
  go_enter Tryd.func6, Tryd.ntmps6
  have B0 := hide (Below.refl w.heap.size w)
  go_wp2_with fail
  refine (toByteS_any _ zs _ (H.out.1.below B0.out) (by omega)).mono ?_
  rintro e w1 ⟨t0, rfl, o, b⟩
  have S1 := hide b.size
  have B1 := hide (B0.out.trans (b.mono B0.out.size))
  have T0o1 := hide o
  have Lt0 := hide (fun k hk => T0o1.out.lt (v := t0) k hk)
  have Zt0 := hide B0.out.size
  clear o b
  go_wp2_with fail
  refine (HS.out t0 _ (Rd.own T0o1.out)).mono ?_
  rintro e w2 ⟨v2, rfl, o, b⟩
  have T0o2 := hide (own_below T0o1.out b)
  clear T0o1
  have S2 := hide b.size
  have B2 := hide (B1.out.trans (b.mono B1.out.size))
  have V2o2 := hide o
  have Lv2 := hide (fun k hk => V2o2.out.lt (v := v2) k hk)
  have Zv2 := hide B1.out.size
  clear o b
  clear T0o2 Lt0 Zt0
  go_wp2_with fail
  refine (toByteS_any _ zs _ (H.out.1.below B2.out) (by omega)).mono ?_
  rintro e w3 ⟨x0, rfl, o, b⟩
  have V2o3 := hide (own_below V2o2.out b)
  clear V2o2
  have S3 := hide b.size
  have B3 := hide (B2.out.trans (b.mono B2.out.size))
  have X0o3 := hide o
  have Lx0 := hide (fun k hk => X0o3.out.lt (v := x0) k hk)
  have Zx0 := hide B2.out.size
  clear o b
  go_wp2_with fail
  refine (HI.out x0 _ (Rd.own X0o3.out) (H.out.2.below B3.out)).mono ?_
  rintro e w4 ⟨g0, rfl, o, b⟩
  have V2o4 := hide (own_below V2o3.out b)
  clear V2o3
  have X0o4 := hide (own_below X0o3.out b)
  clear X0o3
  have S4 := hide b.size
  have B4 := hide (B3.out.trans (b.mono B3.out.size))
  have G0o4 := hide o
  have Lg0 := hide (fun k hk => G0o4.out.lt (v := g0) k hk)
  have Zg0 := hide B3.out.size
  clear o b
  go_wp2_with fail
  refine (eqByteS_same g0 v2 R _ (Rd.own G0o4.out) (Rd.own V2o4.out)).mono ?_
  rintro e w5 ⟨rfl, b⟩
  have V2o5 := hide (own_below V2o4.out b)
  clear V2o4
  have X0o5 := hide (own_below X0o4.out b)
  clear X0o4
  have G0o5 := hide (own_below G0o4.out b)
  clear G0o4
  have S5 := hide b.size
  have B5 := hide (B4.out.trans (b.mono B4.out.size))
  clear b
  go_wp2_with fail
  refine (toByteS_any _ zs _ (H.out.1.below B5.out) (by omega)).mono ?_
  rintro e w6 ⟨t0, rfl, o, b⟩
  have V2o6 := hide (own_below V2o5.out b)
  clear V2o5
  have X0o6 := hide (own_below X0o5.out b)
  clear X0o5
  have G0o6 := hide (own_below G0o5.out b)
  clear G0o5
  have S6 := hide b.size
  have B6 := hide (B5.out.trans (b.mono B5.out.size))
  have T0o6 := hide o
  have Lt0 := hide (fun k hk => T0o6.out.lt (v := t0) k hk)
  have Zt0 := hide B5.out.size
  clear o b
  go_wp2_with fail
  refine (eqByteS_same x0 t0 zs _ (Rd.own X0o6.out) (Rd.own T0o6.out)).mono ?_
  rintro e w7 ⟨rfl, b⟩
  have V2o7 := hide (own_below V2o6.out b)
  clear V2o6
  have X0o7 := hide (own_below X0o6.out b)
  clear X0o6
  have G0o7 := hide (own_below G0o6.out b)
  clear G0o6
  have T0o7 := hide (own_below T0o6.out b)
  clear T0o6
  have S7 := hide b.size
  have B7 := hide (B6.out.trans (b.mono B6.out.size))
  clear b
  clear T0o7 Lt0 Zt0
  go_wp2_with fail
  refine (markByteS_any x0 w2.heap.size zs.length 1 _ _ X0o7.out (by omega) (by omega)).mono ?_
  rintro e w8 ⟨he, o, g⟩
  rw [← HK1.out] at he
  subst he
  have V2o8 := hide (V2o7.out.kept g (apart2 Lv2.out Lx0.out (by have := S1.out; have := S2.out; have := S3.out; have := S4.out; have := S5.out; have := S6.out; have := S7.out; omega)))
  clear V2o7
  have G0o8 := hide (G0o7.out.kept g (apart2 Lg0.out Lx0.out (by have := S1.out; have := S2.out; have := S3.out; have := S4.out; have := S5.out; have := S6.out; have := S7.out; omega)))
  clear G0o7
  have B8 := hide (B7.out.grown g B7.out.size (fun k hk => Nat.le_trans Zx0.out (X0o7.out.lt k hk).1))
  have S8 := hide g.size
  have X0o8 := hide o
  clear o g X0o7
  clear X0o8 Lx0 Zx0
  go_wp2_with fail
  refine (eqByteS_same g0 v2 R _ (Rd.own G0o8.out) (Rd.own V2o8.out)).mono ?_
  rintro e w9 ⟨rfl, b⟩
  have V2o9 := hide (own_below V2o8.out b)
  clear V2o8
  have G0o9 := hide (own_below G0o8.out b)
  clear G0o8
  have S9 := hide b.size
  have B9 := hide (B8.out.trans (b.mono B8.out.size))
  clear b
  go_wp2_with fail
  refine (markByteS_any g0 w3.heap.size R.length 1 _ _ G0o9.out (by omega) (by omega)).mono ?_
  rintro e w10 ⟨he, o, g⟩
  rw [← HM.out] at he
  subst he
  have V2o10 := hide (V2o9.out.kept g (apart2 Lv2.out Lg0.out (by have := S1.out; have := S2.out; have := S3.out; have := S4.out; have := S5.out; have := S6.out; have := S7.out; have := S8.out; have := S9.out; omega)))
  clear V2o9
  have B10 := hide (B9.out.grown g B9.out.size (fun k hk => Nat.le_trans Zg0.out (G0o9.out.lt k hk).1))
  have S10 := hide g.size
  have G0o10 := hide o
  clear o g G0o9
  go_wp2_with fail
  refine (heldByteS_any g0 R.length 1 _ (Rd.own G0o10.out) (by omega) (by omega)).mono ?_
  rintro e wq ⟨he, hwq⟩
  rw [← HM.out] at he
  subst he
  rw [hwq]
  clear hwq wq
  go_wp2_with fail
  refine (toByteS_any _ zs _ (H.out.1.below B10.out) (by omega)).mono ?_
  rintro e w11 ⟨t0, rfl, o, b⟩
  have V2o11 := hide (own_below V2o10.out b)
  clear V2o10
  have G0o11 := hide (own_below G0o10.out b)
  clear G0o10
  have S11 := hide b.size
  have B11 := hide (B10.out.trans (b.mono B10.out.size))
  have T0o11 := hide o
  have Lt0 := hide (fun k hk => T0o11.out.lt (v := t0) k hk)
  have Zt0 := hide B10.out.size
  clear o b
  go_wp2_with fail
  refine (HI.out t0 _ (Rd.own T0o11.out) (H.out.2.below B11.out)).mono ?_
  rintro e w12 ⟨h0, rfl, o, b⟩
  have V2o12 := hide (own_below V2o11.out b)
  clear V2o11
  have G0o12 := hide (own_below G0o11.out b)
  clear G0o11
  have T0o12 := hide (own_below T0o11.out b)
  clear T0o11
  have S12 := hide b.size
  have B12 := hide (B11.out.trans (b.mono B11.out.size))
  have H0o12 := hide o
  have Lh0 := hide (fun k hk => H0o12.out.lt (v := h0) k hk)
  have Zh0 := hide B11.out.size
  clear o b
  go_wp2_with fail
  refine (eqByteS_same h0 v2 R _ (Rd.own H0o12.out) (Rd.own V2o12.out)).mono ?_
  rintro e w13 ⟨rfl, b⟩
  have V2o13 := hide (own_below V2o12.out b)
  clear V2o12
  have G0o13 := hide (own_below G0o12.out b)
  clear G0o12
  have T0o13 := hide (own_below T0o12.out b)
  clear T0o12
  have H0o13 := hide (own_below H0o12.out b)
  clear H0o12
  have S13 := hide b.size
  have B13 := hide (B12.out.trans (b.mono B12.out.size))
  clear b
  go_wp2_with fail
  refine (heldByteS_any g0 R.length 1 _ (Rd.own G0o13.out) (by omega) (by omega)).mono ?_
  rintro e wq ⟨he, hwq⟩
  rw [← HM.out] at he
  subst he
  rw [hwq]
  clear hwq wq
  go_wp2
  go_ret
  exact ⟨rfl, B13.out⟩
end Go.Proofs.YtcciaojdceejcaaDoor
