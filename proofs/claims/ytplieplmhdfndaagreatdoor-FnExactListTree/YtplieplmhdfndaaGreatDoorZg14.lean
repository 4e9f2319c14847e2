/- The model's directories: L06Entries. -/
import Derived.Test.YtplieplmhdfndaaGreatDoorZg13
import Derived.Great.BuildSlice
import Derived.Great.FillDense
namespace Go.Proofs.YtplieplmhdfndaaGreatDoor
set_option linter.unusedVariables false
set_option linter.unusedSimpArgs false
open Go.RowKit

/-- Slot k of the bytes. -/
def slotK (zs : List Int) (k : Nat) : List Int := (zs.drop (k * 32)).take 32
/-- The entries of the first k slots, or none if one of them is wrong. -/
def entT (zs : List Int) : Nat → Option (List (ByteArray × Nat × Nat))
  | 0 => some []
  | k + 1 => match entT zs k with
    | none => none
    | some es => if sZero (slotK zs k) = true then some es else if (sRight (slotK zs k) && !(es.any fun e => e.1.toList == (sName (slotK zs k)).toList)) = true then some (es ++ [(sName (slotK zs k), sIno (slotK zs k), sKind (slotK zs k))]) else none
/-- Whether the bytes are a directory. -/
def dirOk (zs : List Int) : Bool := decide (zs.length % 512 = 0) && (decide (zs.length ≤ 262144) && ((entT zs (zs.length / 32)).isSome && !(decide (0 < zs.length) && allZ (zs.drop (zs.length - 512)))))
/-- The cells of entries in a row. -/
def entsC : List (ByteArray × Nat × Nat) → List Value
  | [] => []
  | e :: es => .string e.1 :: .int .i64 (e.2.1 : Int) :: .int .i64 (e.2.2 : Int) :: entsC es
theorem entsC_append : ∀ es fs, entsC (es ++ fs) = entsC es ++ entsC fs
  | [], _ => rfl
  | e :: es, fs => by simp [entsC, entsC_append es fs]
theorem entT_none {zs : List Int} {k : Nat} : ∀ {n : Nat}, k ≤ n → entT zs k = none → entT zs n = none
  | 0, h, e => by rw [show k = 0 by omega] at e; exact e
  | n + 1, h, e => by
    rcases Nat.lt_or_ge n k with h1 | h1
    · rw [show k = n + 1 by omega] at e; exact e
    · rw [entT, entT_none h1 e]
theorem entT_zero {zs : List Int} {k : Nat} {es : List (ByteArray × Nat × Nat)} (h : entT zs k = some es) (hz : sZero (slotK zs k) = true) : entT zs (k + 1) = some es := by
  rw [entT, h]; simp [hz]
theorem entT_bad {zs : List Int} {k : Nat} {es : List (ByteArray × Nat × Nat)} (h : entT zs k = some es) (hz : sZero (slotK zs k) = false) (hr : sRight (slotK zs k) = false) : entT zs (k + 1) = none := by
  rw [entT, h]; simp [hz, hr]
theorem entT_twice {zs : List Int} {k : Nat} {es : List (ByteArray × Nat × Nat)} (h : entT zs k = some es) (hz : sZero (slotK zs k) = false) (ht : (es.any fun e => e.1.toList == (sName (slotK zs k)).toList) = true) : entT zs (k + 1) = none := by
  rw [entT, h]
  show (if sZero (slotK zs k) = true then some es else if (sRight (slotK zs k) && !(es.any fun e => e.1.toList == (sName (slotK zs k)).toList)) = true then _ else none) = none
  rw [hz, ht]; simp
theorem entT_more {zs : List Int} {k : Nat} {es : List (ByteArray × Nat × Nat)} (h : entT zs k = some es) (hz : sZero (slotK zs k) = false) (hr : sRight (slotK zs k) = true) (ht : (es.any fun e => e.1.toList == (sName (slotK zs k)).toList) = false) : entT zs (k + 1) = some (es ++ [(sName (slotK zs k), sIno (slotK zs k), sKind (slotK zs k))]) := by
  rw [entT, h]
  show (if sZero (slotK zs k) = true then some es else if (sRight (slotK zs k) && !(es.any fun e => e.1.toList == (sName (slotK zs k)).toList)) = true then _ else none) = _
  rw [hz, hr, ht]; simp
theorem dirOk_none {zs : List Int} {k : Nat} (hk : k ≤ zs.length / 32) (h : entT zs k = none) : dirOk zs = false := by
  unfold dirOk
  rw [entT_none hk h]
  simp
theorem wpList_store_newD {P : Program} {ops : Array Oper} {rest : List Oper} {o : Oper} {a : Act} {w : World} {Q : Exit → Act → World → Prop} (B : Nat) (W0 : World) (hgd : o.guard = none) (ty : TypeId) (x y : Operand) (ho : o.op = .store ty x y)
    (g : Nat) (cells : Array Value) (hx : a.eval x = .pointer (some ⟨g, 0, none⟩)) (hy : a.eval y = .agg cells)
    (t : TypeId) (old : Array Value) (hg : Blk w g old t) (hi : (P.info? ty).map (·.size) = some cells.size)
    (hold : old.size = cells.size) (h1 : cells.all (·.oneCell') = true) (hB : Below B W0 w) (hBg : B ≤ g)
    (h : ∀ w2, Blk w2 g cells t → Below B W0 w2 → wpList P ops Q rest (a.put o.dst undef) w2) : wpList P ops Q (o :: rest) a w :=
  wpList_store_row hgd ty x y ho g cells hx hy t old hg hi hold h1 (h _ (hg.row cells) (below_setRow hB hBg cells))
theorem own_emptyD (w : World) (e : TypeId) (sz : Nat) : (w.alloc (.cells #[] e)).ownsRow w.heap.size e sz (.slice (some ⟨w.heap.size, 0, none⟩) 0 0) 0 [] :=
  ⟨by simp, .inr ⟨w.heap.size, 0, #[], rfl, Nat.le_refl _, heap_alloc_new w _, Nat.le_refl _, by simp, by simp, by simp⟩⟩
theorem own_sliceD {w : World} {base : Nat} {e : TypeId} {size : Nat} {v : Value} {n : Nat} {xs : List Value} (h : w.ownsRow base e size v n xs) (hn : 0 < n) : ∃ g cap, v = .slice (some ⟨g, 0, none⟩) n cap ∧ base ≤ g ∧ g < w.heap.size ∧ ∀ j u, xs[j]? = some u → w.cell? ((⟨g, 0, none⟩ : Addr).add j) = some u := by
  rcases h.2 with ⟨_, h0⟩ | ⟨g, cap, cur, rfl, hb, hg, _⟩
  · omega
  · exact ⟨g, cap, rfl, hb, (h.lt g rfl).2, h.cells rfl⟩
theorem ownD_shape {w : World} {base : Nat} {e : TypeId} {v : Value} {n sz : Nat} {xs : List Value} (h : w.ownsRow base e sz v n xs) : ∃ a cap, v = .slice a n cap := by
  rcases h.2 with ⟨rfl, rfl⟩ | ⟨g, cap, _, rfl, _⟩
  · exact ⟨_, _, rfl⟩
  · exact ⟨_, _, rfl⟩
theorem wpList_build1D {P : Program} {ops : Array Oper} {rest : List Oper} {o : Oper} {a : Act} {w : World} {Q : Exit → Act → World → Prop} (hgd : o.guard = none) (t e : TypeId) (x : Operand) (ho : o.op = .buildSlice t 1 #[(0, x)]) (cells : Array Value) (hx : a.eval x = .agg cells) (i : TypeInfo) (z : Value)
    (hu : P.underlying t = some (.slice e)) (hi : P.info? e = some i) (hz : i.zero = some z) (hs : i.size = cells.size) (hp : 0 < cells.size) (hl : cells.size ≤ 1000)
    (h : wpList P ops Q rest (a.put o.dst (.slice (some ⟨w.heap.size, 0, none⟩) 1 1)) (w.alloc (.cells cells e))) : wpList P ops Q (o :: rest) a w := by
  have hf : Instr.fill (fun j => some (j * i.size, i.size)) ((Array.range (1 * i.size)).map (z.cells[· % z.cells.size]!)) [(0, Value.agg cells)] = some cells := by
    have := Great.fill_whole (s := i.size) (by omega) [.agg cells] ((Array.range (1 * i.size)).map (z.cells[· % z.cells.size]!)) (by intro v hv; simp at hv; subst hv; exact hs.symm) (by simp)
    simpa [Value.cells] using this
  have he : ((#[(0, x)] : Array (Nat × Operand)).map (fun p => (p.1, a.eval p.2))).toList = [(0, Value.agg cells)] := by simp [hx]
  exact wpList_buildSlice hgd t e 1 _ ho cells i z hu hi hz (by omega) (by omega) (by rw [← he] at hf; exact hf) h
theorem cells_newD (w : World) (C : Array Value) (t : TypeId) : ∀ j u, C.toList[j]? = some u → (w.alloc (.cells C t)).cell? ((⟨w.heap.size, 0, none⟩ : Addr).add j) = some u := by
  intro j u hj
  rw [Addr.add_mid, (Blk.new w C t).cell (0 + j), Nat.zero_add]
  simpa using hj
theorem entsC_at : ∀ (es : List (ByteArray × Nat × Nat)) (m : Nat) (f : ByteArray × Nat × Nat), es[m]? = some f → ∀ (j : Nat) (v : Value), ([.string f.1, .int .i64 (f.2.1 : Int), .int .i64 (f.2.2 : Int)] : List Value)[j]? = some v → (entsC es)[m * 3 + j]? = some v
  | [], m, f, h, j, v, hv => by simp at h
  | e :: es, 0, f, h, j, v, hv => by
    simp at h
    subst h
    match j, hv with
    | 0, hv => simpa [entsC] using hv
    | 1, hv => simpa [entsC] using hv
    | 2, hv => simpa [entsC] using hv
    | j + 3, hv => simp at hv
  | e :: es, m + 1, f, h, j, v, hv => by
    have ih := entsC_at es m f (by simpa using h) j v hv
    rw [entsC, show (m + 1) * 3 + j = (m * 3 + j) + 1 + 1 + 1 by omega]
    simpa using ih
theorem any_take {es : List (ByteArray × Nat × Nat)} {m : Nat} {f : ByteArray × Nat × Nat} {p : ByteArray × Nat × Nat → Bool} (h : es[m]? = some f) : (es.take (m + 1)).any p = ((es.take m).any p || p f) := by
  have hm : m < es.length := (List.getElem?_eq_some_iff.1 h).1
  rw [List.take_succ_eq_append_getElem hm, List.any_append]
  have : es[m] = f := (List.getElem?_eq_some_iff.1 h).2
  simp [this]
theorem any_of_at {es : List (ByteArray × Nat × Nat)} {m : Nat} {f : ByteArray × Nat × Nat} {p : ByteArray × Nat × Nat → Bool} (h : es[m]? = some f) (hp : p f = true) : es.any p = true := by
  rw [List.any_eq_true]
  exact ⟨f, List.mem_of_getElem? h, hp⟩
/-- Between two rounds. -/
structure Ent (b off cap : Nat) (zs : List Int) (w : World) (gS : Nat) (N k : Nat) (es : List (ByteArray × Nat × Nat)) (o : Value) (W : World) : Prop where
  ent : entT zs k = some es
  own : W.ownsRow w.heap.size 61 3 o es.length (entsC es)
  ne : o.ownBlock ≠ some gS
  cs : ∀ j, j < N → W.cell? ⟨gS, j, none⟩ = some (slotV b off cap j)
  gs : gS < W.heap.size
  old : Below w.heap.size w W
  len : es.length ≤ k
theorem Ent.below {b off cap : Nat} {zs : List Int} {w : World} {gS N k : Nat} {es : List (ByteArray × Nat × Nat)} {o : Value} {W W' : World} (h : Ent b off cap zs w gS N k es o W) (hb : Below W.heap.size W W') : Ent b off cap zs w gS N k es o W' :=
  ⟨h.ent, own_below h.own hb, h.ne, fun j hj => (hb.cell (p := ⟨gS, j, none⟩) h.gs).trans (h.cs j hj), Nat.lt_of_lt_of_le h.gs hb.size, h.old.trans (hb.mono h.old.size), h.len⟩
set_option maxRecDepth 100000 in
set_option maxHeartbeats 1000000 in
theorem entries_pos (b off cap : Nat) (zs : List Int) (w : World) (h : Rd .u8 w (.slice (some ⟨b, off, none⟩) zs.length cap) zs) (hbd : ∀ z ∈ zs, 0 ≤ z ∧ z < 256) (hl : zs.length ≤ 262144) (h512 : zs.length % 512 = 0) (h0 : 0 < zs.length) :
    Calls Tryz.prog 93 #[.slice (some ⟨b, off, none⟩) zs.length cap] w fun e w' => ∃ v, e = .returned (.tuple #[v, .bool (dirOk zs)]) ∧ (dirOk zs = true → ∃ es, entT zs (zs.length / 32) = some es ∧ w'.ownsRow w.heap.size 61 3 v es.length (entsC es)) ∧ Below w.heap.size w w' := by
  have h512i : ((zs.length : Int) % 512) = 0 := by omega
  have hli : ¬ ((262144 : Int) < (zs.length : Int)) := by omega
  have hcells : b < w.heap.size ∧ zs.length ≤ cap ∧ cap ≤ maxLen ∧ ∀ i, i < zs.length → w.cell? ⟨b, off + i, none⟩ = some (.int .u8 (zs.getD i 0)) := by
    obtain ⟨a, cp, e, hm, hc, h1, h2⟩ := h
    injection e with e1 e2 e3
    subst e3
    have hne : zs ≠ [] := by intro e; rw [e] at h0; simp at h0
    obtain ⟨b', off', ea, hlt, hcell⟩ := hc hne
    rw [ea] at e1
    injection e1 with e1
    injection e1 with e4 e5
    subst e4 e5
    exact ⟨hlt, by omega, h2, hcell⟩
  obtain ⟨hbw, hcap, hcapm, hcell⟩ := hcells
  have HCl := hide hcell
  have HX := hide hbd
  obtain ⟨N, hN⟩ : ∃ N, N = zs.length / 32 := ⟨_, rfl⟩
  have hNL1 : zs.length ≤ N * 32 := by omega
  have hNL2 : N * 32 ≤ zs.length := by omega
  have HNo := hide (show ∀ k, k ≤ N → entT zs k = none → dirOk zs = false from fun k hk h => dirOk_none (by rw [← hN]; exact hk) h)
  obtain ⟨i0, hi, hz0, hz1, hz2⟩ := info_parts infoD
  have HOw0 := hide (own_emptyD w 61 3)
  have HB0 := hide (show Below w.heap.size w (w.alloc (.cells #[] 61)) from (Below.refl _ _).alloc (Nat.le_refl _) _)
  have HSl := hide (slots_any b off cap zs (w.alloc (.cells #[] 61)) hcap hcapm hl (by omega) (some ⟨b, off, none⟩) (fun _ => rfl))
  rw [← hN] at HSl
  unfold maxLen at hcapm
  clear h hbd hcell hN
  go_enter Tryz.func93, Tryz.ntmps93
  go_wp2_with (go_at_call 141; fail)
  refine HSl.out.mono ?_
  clear HSl
  rintro e wS ⟨v22, rfl, oS, bS⟩
  obtain ⟨gS, cS, rfl, hgS1, hgS2, hcS⟩ := own_sliceD oS (by omega)
  rw [World.size_alloc] at hgS1
  have E0 := hide (show Ent b off cap zs w gS N 0 [] (.slice (some ⟨w.heap.size, 0, none⟩) 0 0) wS from ⟨rfl, own_below HOw0.out bS, by simp [Value.ownBlock]; omega, fun j hj => by
    have := hcS j (slotV b off cap j) (by simp [hj])
    rwa [Addr.add_mid, Nat.zero_add] at this, hgS2, HB0.out.trans (bS.mono (by simp)), Nat.le_refl _⟩)
  clear oS bS hcS HOw0 HB0
  go_wp2
  go_loopw [4, 24] (fun o i wr => ∃ (k : Nat) (es : List (ByteArray × Nat × Nat)), k ≤ N ∧ i = .int .i64 (k : Int) ∧ Ent b off cap zs w gS N k es o wr) (fun _ i _ => N - (intOf i).toNat)
  case atStart => exact ⟨0, [], by omega, rfl, E0.out⟩
  case round =>
    clear E0
    obtain ⟨k, es, hk, rfl, hE⟩ := hrel
    obtain ⟨la, lc, rfl⟩ := ownD_shape hE.own
    have HE := hide hE
    by_cases hlt : k < N
    · have hl1 : k * 32 + 32 ≤ zs.length := by omega
      have c1 : wr.cell? ⟨gS, k, none⟩ = some (.slice (some ⟨b, off + k * 32, none⟩) 32 (cap - k * 32)) := hE.cs k hlt
      have HRd := hide (show Rd .u8 wr (.slice (some ⟨b, off + k * 32, none⟩) 32 (cap - k * 32)) (slotK zs k) from Rd.cut (k * 32) 32 (Nat.lt_of_lt_of_le hbw hE.old.size) (by unfold maxLen; omega) hcap (fun i hi => (hE.old.cell (p := ⟨b, off + i, none⟩) hbw).trans (HCl.out i hi)) hl1)
      have HL := hide (show (slotK zs k).length = 32 ∧ ∀ z ∈ slotK zs k, 0 ≤ z ∧ z < 256 from ⟨by unfold slotK; rw [List.length_take, List.length_drop]; omega, fun z hz => HX.out z (List.mem_of_mem_drop (List.mem_of_mem_take hz))⟩)
      clear hE
      go_wp2_with (go_at_call 142; fail)
      refine (zeroBytes_any _ (slotK zs k) _ HRd.out).mono ?_
      rintro e w3 ⟨rfl, hw⟩
      have hw' := hw.symm
      clear hw
      subst hw'
      rcases hz : allZ (slotK zs k) with _ | _
      rotate_left
      · have HE2 := hide (show Ent b off cap zs w gS N (k + 1) es (.slice la es.length lc) wr from ⟨entT_zero HE.out.ent hz, HE.out.own, HE.out.ne, HE.out.cs, HE.out.gs, HE.out.old, by have := HE.out.len; omega⟩)
        clear hz HE
        go_wp2
        go_roundw
        case rel => exact ⟨k + 1, es, by omega, by go_num, HE2.out⟩
        case measure => simp [intOf]; omega
      · have HZ := hide (show sZero (slotK zs k) = false from hz)
        clear hz
        go_wp2_with (go_at_call 112; fail)
        refine (entry_any b (off + k * 32) (cap - k * 32) (slotK zs k) _ HRd.out HL.out.1 HL.out.2).mono ?_
        rintro e w4 ⟨nm, ino, kd, rfl, hr, b4⟩
        have HE4 := hide (HE.out.below b4)
        have HK := hide (show Blk (w4.alloc (.cells (entC ⟨#[]⟩ 0 0) 61)) w4.heap.size (entC ⟨#[]⟩ 0 0) 61 ∧ Below w4.heap.size w4 (w4.alloc (.cells (entC ⟨#[]⟩ 0 0) 61)) from ⟨Blk.new _ _ _, (Below.refl _ _).alloc (Nat.le_refl _) _⟩)
        clear b4 HE HRd
        rcases hrt : sRight (slotK zs k) with _ | _
        · have HNk := hide (HNo.out (k + 1) (by omega) (entT_bad HE4.out.ent HZ.out hrt))
          clear hr hrt
          go_wp2_with (refine wpList_store_newD w4.heap.size w4 rfl 61 _ _ rfl w4.heap.size (entC nm ino kd) rfl rfl 61 (entC ⟨#[]⟩ 0 0) HK.out.1 infoD3 rfl entC_one HK.out.2 (Nat.le_refl _) ?_; intro w5 k5 b5; have B5 := hide (HE4.out.old.trans (b5.mono HE4.out.old.size)); clear k5 b5)
          go_ret2
          rw [HNk.out]
          exact ⟨_, rfl, fun h => (by cases h), B5.out⟩
        · have HR := hide (And.intro hrt (hr hrt))
          clear hr hrt
          go_wp2_with (refine wpList_store_newD w4.heap.size w4 rfl 61 _ _ rfl w4.heap.size (entC nm ino kd) rfl rfl 61 (entC ⟨#[]⟩ 0 0) HK.out.1 infoD3 rfl entC_one HK.out.2 (Nat.le_refl _) ?_; intro w5 k5 b5; have K5 := hide k5; have E5 := hide (HE4.out.below b5); clear k5 b5)
          have HK5 := hide (show w4.heap.size < w5.heap.size from K5.out.lt)
          clear c1
          go_wp2
          go_loopw [39] (fun j wj => ∃ m : Nat, m ≤ es.length ∧ j = .int .i64 (m : Int) ∧ ((es.take m).any fun e => e.1.toList == nm.toList) = false ∧ Below w5.heap.size w5 wj) (fun j _ => es.length - (intOf j).toNat)
          case atStart => exact ⟨0, by omega, rfl, by simp, Below.refl _ _⟩
          case round =>
            obtain ⟨m, hm, rfl, hno, hb6⟩ := hrel
            have E6 := hide (E5.out.below hb6)
            have K6 := hide (K5.out.below hb6 HK5.out)
            have HNo6 := hide hno
            have H6 := hide hb6
            have cN := (K6.out.cell 0).trans (show (entC nm ino kd)[0]? = some (.string nm) from rfl)
            have hlb : w4.heap.size < wr.heap.size := K6.out.lt
            have hle : es.length ≤ k := E6.out.len
            clear hno hb6
            by_cases hlt2 : m < es.length
            · obtain ⟨g, cp, ee, hg1, hg2, hcc⟩ := own_sliceD E6.out.own (by omega)
              injection ee with e1 e2 e3
              subst e1
              subst e3
              obtain ⟨⟨fn, fi, fk⟩, hf⟩ : ∃ f, es[m]? = some f := ⟨_, List.getElem?_eq_getElem hlt2⟩
              have HRg := hide (show wr.rangeAt g (m * 3) [.string fn, .int .i64 (fi : Int), .int .i64 (fk : Int)] from fun j v hv => by
                have h1 := hcc (m * 3 + j) v (entsC_at es m _ hf j v hv)
                rw [Addr.add_mid, Nat.zero_add] at h1
                exact h1)
              have HF := hide hf
              have HK2 := hide (show Blk (wr.alloc (.cells (entC ⟨#[]⟩ 0 0) 61)) wr.heap.size (entC ⟨#[]⟩ 0 0) 61 ∧ Below wr.heap.size wr (wr.alloc (.cells (entC ⟨#[]⟩ 0 0) 61)) from ⟨Blk.new _ _ _, (Below.refl _ _).alloc (Nat.le_refl _) _⟩)
              clear hcc hf e2
              rcases hq : (fn.toList == nm.toList) with _ | _
              · have HQ := hide hq
                go_wp2_with (first | (refine wpList_load_mid rfl 61 _ rfl g (m * 3) rfl [.string fn, .int .i64 (fi : Int), .int .i64 (fk : Int)] _ HRg.out Tryz.underlying61 rfl infoD3 ?_) | (refine wpList_store_newD wr.heap.size wr rfl 61 _ _ rfl wr.heap.size (entC fn fi fk) rfl rfl 61 (entC ⟨#[]⟩ 0 0) HK2.out.1 infoD3 rfl entC_one HK2.out.2 (Nat.le_refl _) ?_; intro w8 k8 b8; have c8 := (k8.cell 0).trans (show (entC fn fi fk)[0]? = some (.string fn) from rfl); have c9 := (b8.cell (p := ⟨w4.heap.size, 0, none⟩) hlb).trans cN; have B8 := hide b8; clear k8 b8))
                go_roundw
                case rel => exact ⟨m + 1, by omega, by go_num, by rw [any_take HF.out, HNo6.out, HQ.out]; rfl, H6.out.trans (B8.out.mono H6.out.size)⟩
                case measure => simp [intOf]; omega
              · have HNk := hide (HNo.out (k + 1) (by omega) (entT_twice HE4.out.ent HZ.out (any_of_at HF.out (by rw [← HR.out.2.1]; exact hq))))
                go_wp2_with (first | (refine wpList_load_mid rfl 61 _ rfl g (m * 3) rfl [.string fn, .int .i64 (fi : Int), .int .i64 (fk : Int)] _ HRg.out Tryz.underlying61 rfl infoD3 ?_) | (refine wpList_store_newD wr.heap.size wr rfl 61 _ _ rfl wr.heap.size (entC fn fi fk) rfl rfl 61 (entC ⟨#[]⟩ 0 0) HK2.out.1 infoD3 rfl entC_one HK2.out.2 (Nat.le_refl _) ?_; intro w8 k8 b8; have c8 := (k8.cell 0).trans (show (entC fn fi fk)[0]? = some (.string fn) from rfl); have c9 := (b8.cell (p := ⟨w4.heap.size, 0, none⟩) hlb).trans cN; have B8 := hide b8; clear k8 b8))
                go_ret2
                rw [HNk.out]
                exact ⟨_, rfl, fun h => (by cases h), E6.out.old.trans (B8.out.mono E6.out.old.size)⟩
            · have hme : m = es.length := by omega
              subst hme
              have HAny := hide (show (es.any fun e => e.1.toList == (sName (slotK zs k)).toList) = false from by
                have h := HNo6.out
                rw [List.take_length, HR.out.2.1] at h
                exact h)
              have HMore := hide (entT_more HE4.out.ent HZ.out HR.out.1 HAny.out)
              have HOs := E6.out.old.size
              have HGr : wr.heap.size ≤ wr.heap.size := Nat.le_refl _
              go_wp2_with (first | (refine wpList_load_row rfl 61 _ rfl w4.heap.size rfl 61 (entC nm ino kd) (0, 0) _ K6.out Tryz.underlying61 rfl infoD3 ?_) | (refine wpList_build1D rfl 98 61 _ rfl (entC nm ino kd) rfl i0 _ Tryz.underlying98 hi hz0 hz1 (show 0 < 3 by omega) (show 3 ≤ 1000 by omega) ?_) | (at_builtin; refine append_fresh _ rfl (.tmp 49) (.tmp 51) 98 rfl w.heap.size 61 i0 (.agg #[.string ⟨#[]⟩, .int .i64 0, .int .i64 0]) 3 32 Tryz.underlying98 hi hz0 hz1 hz2 rfl (by decide) _ _ _ rfl (E6.out.own.alloc _) ⟨wr.heap.size, 0, none⟩ 1 1 (entC nm ino kd).toList rfl rfl (cells_newD wr _ _) (by intro u hu; simp [entC] at hu; rcases hu with rfl | rfl | rfl <;> rfl) (by omega) (by unfold maxLen; omega) (by omega) (by simp; omega) ?_; intro v7 w7 o7 g7 f7; have O7 := hide o7; have G7 := hide g7; have F7 := hide f7; clear o7 g7 f7))
              have HW := hide (show Ent b off cap zs w gS N (k + 1) (es ++ [(sName (slotK zs k), sIno (slotK zs k), sKind (slotK zs k))]) v7 w7 from by
                have hgs := E6.out.gs
                have hne := E6.out.ne
                refine ⟨HMore.out, ?_, fun h => ?_, fun j hj => ?_, ?_, ?_, ?_⟩
                · rw [List.length_append, entsC_append]
                  have h := O7.out
                  rw [HR.out.2.1, HR.out.2.2.1, HR.out.2.2.2] at h
                  exact h
                · rcases F7.out gS h with h1 | h1
                  · exact hne h1
                  · rw [World.size_alloc] at h1; omega
                · refine (World.cell?_of_block (a := ⟨gS, j, none⟩) ((G7.out.block gS (by rw [World.size_alloc]; omega) (fun e => hne e.symm)).trans (Below.heap_alloc wr _ gS hgs))).trans (E6.out.cs j hj)
                · have := G7.out.size; rw [World.size_alloc] at this; omega
                · exact (E6.out.old.alloc HOs _).grown G7.out (by simp; omega) (fun r h => (E6.out.own.lt r h).1)
                · rw [List.length_append]; simp; omega)
              exact ⟨⟨k + 1, _, by omega, by go_num, HW.out⟩, by simp [intOf]; omega⟩
    · have hkN : k = N := by omega
      subst hkN
      have HFin := hide (show dirOk zs = !(allZ (zs.drop (zs.length - 512))) from by
        unfold dirOk
        rw [show zs.length / 32 = k by omega, HE.out.ent, decide_eq_true h512, decide_eq_true hl, decide_eq_true h0]
        simp)
      have HB := hide hE.old
      have HEs := hide (show entT zs (zs.length / 32) = some es ∧ wr.ownsRow w.heap.size 61 3 (.slice la es.length lc) es.length (entsC es) from ⟨by rw [show zs.length / 32 = k by omega]; exact hE.ent, hE.own⟩)
      have HRl := hide (show Rd .u8 wr (.slice (some ⟨b, off + (zs.length - 512), none⟩) 512 (cap - (zs.length - 512))) (zs.drop (zs.length - 512)) from by
        have h := Rd.cut (k := .u8) (w := wr) (b := b) (off := off) (cap := cap) (zs := zs) (zs.length - 512) 512 (Nat.lt_of_lt_of_le hbw hE.old.size) (by unfold maxLen; omega) hcap (fun i hi => (hE.old.cell (p := ⟨b, off + i, none⟩) hbw).trans (HCl.out i hi)) (by omega)
        rwa [List.take_of_length_le (by rw [List.length_drop]; omega)] at h)
      have hq1 : (0 : Int) < (zs.length : Int) := by omega
      have hq2 : (512 : Int) ≤ (zs.length : Int) := by omega
      have hq3 : (zs.length : Int) ≤ (cap : Int) := by omega
      clear hE HE
      go_wp2_with (go_at_call 142; fail)
      rw [show zs.length - (zs.length - 512) = 512 by omega]
      refine (zeroBytes_any _ (zs.drop (zs.length - 512)) _ HRl.out).mono ?_
      rintro e w3 ⟨rfl, hw⟩
      have hw' := hw.symm
      clear hw
      subst hw'
      rcases hz : allZ (zs.drop (zs.length - 512)) with _ | _
      · have HD := hide (show dirOk zs = true from by rw [HFin.out, hz]; rfl)
        clear hz
        go_wp2
        go_ret2
        rw [HD.out]
        exact ⟨_, rfl, fun _ => ⟨es, HEs.out.1, HEs.out.2⟩, HB.out⟩
      · have HD := hide (show dirOk zs = false from by rw [HFin.out, hz]; rfl)
        clear hz
        go_wp2
        go_ret2
        rw [HD.out]
        exact ⟨_, rfl, fun h => (by cases h), HB.out⟩
set_option maxRecDepth 100000 in
set_option maxHeartbeats 1000000 in
theorem entries_zero (a : Option Addr) (cap : Nat) (w : World) (hcapm : cap ≤ maxLen) :
    Calls Tryz.prog 93 #[.slice a 0 cap] w fun e w' => ∃ v, e = .returned (.tuple #[v, .bool true]) ∧ w'.ownsRow w.heap.size 61 3 v 0 [] ∧ Below w.heap.size w w' := by
  have HOw0 := hide (own_emptyD w 61 3)
  have HB0 := hide (show Below w.heap.size w (w.alloc (.cells #[] 61)) from (Below.refl _ _).alloc (Nat.le_refl _) _)
  have HSl := hide (slots_any 0 0 cap [] (w.alloc (.cells #[] 61)) (Nat.zero_le _) hcapm (by simp) (by simp) a (fun h => by simp at h))
  go_enter Tryz.func93, Tryz.ntmps93
  go_wp2_with (go_at_call 141; fail)
  refine HSl.out.mono ?_
  clear HSl
  rintro e wS ⟨v22, rfl, oS, bS⟩
  obtain ⟨la, lc, rfl⟩ := ownD_shape oS
  have HW := hide (show wS.ownsRow w.heap.size 61 3 (.slice (some ⟨w.heap.size, 0, none⟩) 0 0) 0 [] ∧ Below w.heap.size w wS from ⟨own_below HOw0.out bS, HB0.out.trans (bS.mono (by simp))⟩)
  clear oS bS HOw0 HB0
  go_wp2
  go_loopw [4, 24] (fun o i wr => o = .slice (some ⟨w.heap.size, 0, none⟩) 0 0 ∧ i = .int .i64 0 ∧ wr = wS) (fun _ _ _ => 0)
  case atStart => exact ⟨rfl, rfl, rfl⟩
  case round =>
    obtain ⟨rfl, rfl, rfl⟩ := hrel
    go_wp2
    go_ret2
    exact ⟨_, rfl, HW.out.1, HW.out.2⟩
set_option maxRecDepth 100000 in
theorem entries_bad (a : Option Addr) (n cap : Nat) (w : World) (hn : n ≤ maxLen) (hb : n % 512 ≠ 0 ∨ 262144 < n) :
    Calls Tryz.prog 93 #[.slice a n cap] w fun e w' => ∃ v, e = .returned (.tuple #[v, .bool false]) ∧ Below w.heap.size w w' := by
  unfold maxLen at hn
  by_cases h5 : n % 512 = 0
  · have h1 : ((n : Int) % 512) = 0 := by omega
    have h2 : (262144 : Int) < (n : Int) := by omega
    clear hb h5
    go_enter Tryz.func93, Tryz.ntmps93
    go_wp2
    go_ret2
    exact ⟨_, rfl, Below.refl _ _⟩
  · have h1 : ¬ ((n : Int) % 512) = 0 := by omega
    clear hb h5
    go_enter Tryz.func93, Tryz.ntmps93
    go_wp2
    go_ret2
    exact ⟨_, rfl, Below.refl _ _⟩
end Go.Proofs.YtplieplmhdfndaaGreatDoor
