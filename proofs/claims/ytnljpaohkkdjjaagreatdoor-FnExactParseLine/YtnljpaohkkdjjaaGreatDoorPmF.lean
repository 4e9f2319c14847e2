/- The program's readLine. -/
import Derived.Test.YtnljpaohkkdjjaaGreatDoorPmE
namespace Go.Proofs.YtnljpaohkkdjjaaGreatDoor
set_option linter.unusedVariables false
set_option linter.unusedSimpArgs false
open Go.RowKit

/-- What readLine answers. -/
def LineR (x : Except Int (Nat × OpD)) (lo : Nat) (C : Array Value) (ev : Value) (w : World) : Prop := match x with
  | .ok y => ev = .nilIface ∧ ∃ dv, C = opC (y.1 : Int) y.2.A y.2.B 0 0 (mk y.2.p) (mk y.2.q) dv ∧ w.ownsRow lo 5 1 dv y.2.d.length (Lib.byteCells y.2.d)
  | .error c => C = noOp ∧ ∃ m, Flt w lo m ev c
theorem line_no {x : Except Int (Nat × OpD)} {c : Int} (h : x = .error c) {lo m : Nat} {ev : Value} {w : World} (hf : Flt w lo m ev c) : LineR x lo noOp ev w := by subst h; exact ⟨rfl, m, hf⟩
theorem line_yes {x : Except Int (Nat × OpD)} {K : Nat} {D : OpD} (h : x = .ok (K, D)) {lo : Nat} {dv : Value} {C : Array Value} {w : World} (hC : C = opC (K : Int) D.A D.B 0 0 (mk D.p) (mk D.q) dv) (ho : w.ownsRow lo 5 1 dv D.d.length (Lib.byteCells D.d)) : LineR x lo C .nilIface w := by subst h; exact ⟨rfl, dv, hC, ho⟩
theorem below_setRowP {B g : Nat} {w0 w : World} (h : Below B w0 w) (hg : B ≤ g) (cs : Array Value) : Below B w0 (w.setRow g cs) :=
  h.trans ⟨rfl, rfl, rfl, by simp [World.setRow], fun k hk => setRow_block w g cs k (by omega)⟩
theorem flt_row {w : World} {lo g : Nat} {cs : Array Value} {n : Nat} {ev : Value} {c : Int} (h : Flt w lo n ev c) (hg : g < lo) : Flt (w.setRow g cs) lo n ev c :=
  h.keep fun b o u hb hc => (World.cell?_of_block (a := ⟨b, o, none⟩) (setRow_block w g cs b (by omega))).trans hc
theorem err_post {w W : World} {C : Array Value} (c : Int) (hb : Below w.heap.size w W) (hB : Blk W w.heap.size C 24) :
    Flt ((W.alloc (.cells #[.int .i64 c] 53)).setRow w.heap.size noOp) w.heap.size 0 (.iface 51 (.pointer (some ⟨W.heap.size, 0, none⟩))) c ∧ Below w.heap.size w ((W.alloc (.cells #[.int .i64 c] 53)).setRow w.heap.size noOp) ∧ Blk ((W.alloc (.cells #[.int .i64 c] 53)).setRow w.heap.size noOp) w.heap.size noOp 24 := by
  have hlt := hB.lt
  refine ⟨⟨W.heap.size, rfl, hb.size, ?_⟩, below_setRowP (hb.alloc hb.size _) (Nat.le_refl _) _, (hB.alloc _).row _⟩
  rw [World.cell?_of_block (a := ⟨W.heap.size, 0, none⟩) (setRow_block _ _ _ W.heap.size (by omega))]
  simp
theorem info_cmd : (Tryz.prog.info? 57).map (·.size) = some 3 := by kernel_rfl
theorem cmd_post {w1 : World} (C : Array Value) : Blk (w1.alloc (.cells C 57)) w1.heap.size C 57 ∧ Below w1.heap.size w1 (w1.alloc (.cells C 57)) ∧ (w1.alloc (.cells C 57)).heap.size = w1.heap.size + 1 :=
  ⟨Blk.new w1 _ _, (Below.refl _ _).alloc (Nat.le_refl _) _, by simp⟩
theorem cmdF_small (k : Nat) (hk : k < 27) : (cmdF.getD k []).length ≤ 4096 := by
  have : ∀ i : Fin 27, (cmdF.getD i.val []).length ≤ 4096 := by decide
  exact this ⟨k, hk⟩
theorem own_rowP {w : World} {base : Nat} {e : TypeId} {v : Value} {n : Nat} {xs : List Value} (hr : w.ownsRow base e 1 v n xs) (g : Nat) (cs : Array Value) (hb : g < base) : (w.setRow g cs).ownsRow base e 1 v n xs := by
  rcases hr.2 with ⟨rfl, h0⟩ | ⟨k, cap, cur, rfl, h1, h2, h3⟩
  · exact ⟨hr.1, .inl ⟨rfl, h0⟩⟩
  · exact ⟨hr.1, .inr ⟨k, cap, cur, rfl, h1, (setRow_block w g cs k (by omega)).trans h2, h3⟩⟩
/-- How many words a fill function wants. -/
def needJ (j : Nat) : Nat := match j with | 1 => 1 | 2 => 2 | 3 => 2 | 4 => 3 | 5 => 3 | 6 => 1 | 7 => 1 | 8 => 2 | _ => 0
theorem cmd_need (k : Nat) (hk : k < 27) : (cmdF.getD k []).length = needJ (cmdK.getD k 0) := by
  have : ∀ i : Fin 27, (cmdF.getD i.val []).length = needJ (cmdK.getD i.val 0) := by decide
  exact this ⟨k, hk⟩
theorem cmdK_le (k : Nat) (hk : k < 27) : cmdK.getD k 0 ≤ 8 := by
  have : ∀ i : Fin 27, cmdK.getD i.val 0 ≤ 8 := by decide
  exact this ⟨k, hk⟩
theorem sayAll_len : ∀ (f : List UInt8) (xs : List (List UInt8)) (L : List (Int × List UInt8)), xs.length = f.length → sayAll f xs = .ok L → L.length = f.length
  | [], _, L, _, h => by simp [sayAll] at h; subst h; rfl
  | _ :: _, [], _, hl, _ => by simp at hl
  | f :: fs, x :: xs, L, hl, h => by
    simp only [sayAll] at h
    cases hs : sayF f x with
    | error c => rw [hs] at h; simp at h
    | ok y =>
      rw [hs] at h
      cases hr : sayAll fs xs with
      | error c => rw [hr] at h; simp [Except.map] at h
      | ok M =>
        rw [hr] at h
        simp [Except.map] at h
        subst h
        simp [sayAll_len fs xs M (by simpa using hl) hr]
theorem parse_says {l x : List UInt8} {xs : List (List UInt8)} {k : Nat} {c : Int} (h : ¬ 2048 < l.length) (hw : wordsL l = x :: xs) (hc : cmdAt x = some k) (hy : (if xs.length = (cmdF.getD k []).length then sayAll (cmdF.getD k []) xs else .error 26) = .error c) : parseL l = .error c := by
  by_cases hn : xs.length = (cmdF.getD k []).length
  · rw [if_pos hn] at hy
    rw [parse_run h hw hc hn, run_fill k (cmd_lt hc) xs hn, hy]
    rfl
  · rw [if_neg hn] at hy
    rw [parse_args h hw hc hn]
    exact congrArg _ (by injection hy)
theorem parse_oks {l x : List UInt8} {xs : List (List UInt8)} {k : Nat} {L : List (Int × List UInt8)} (h : ¬ 2048 < l.length) (hw : wordsL l = x :: xs) (hc : cmdAt x = some k) (hy : (if xs.length = (cmdF.getD k []).length then sayAll (cmdF.getD k []) xs else .error 26) = .ok L) : parseL l = .ok (k + 1, fillBy (cmdK.getD k 0) L) ∧ L.length = (cmdF.getD k []).length := by
  by_cases hn : xs.length = (cmdF.getD k []).length
  · rw [if_pos hn] at hy
    rw [parse_run h hw hc hn, run_fill k (cmd_lt hc) xs hn, hy]
    exact ⟨rfl, sayAll_len _ _ _ hn hy⟩
  · rw [if_neg hn] at hy
    cases hy
theorem getD_some {L : List (Int × List UInt8)} {i : Nat} (h : i < L.length) : L[i]? = some (L.getD i (0, [])) := by simp [List.getD, h]
theorem str_len {x : List UInt8} {l : List UInt8} {xs : List (List UInt8)} (h : wordsL l = x :: xs) : (∀ y ∈ xs, y.length ≤ l.length) ∧ x.length ≤ l.length ∧ xs.length ≤ l.length :=
  ⟨fun y hy => words_small (l := l) (by rw [h]; simp [hy]), words_small (l := l) (by rw [h]; simp), by have := words_len l; rw [h] at this; simp at this; omega⟩
set_option maxRecDepth 100000 in
set_option maxHeartbeats 4000000 in
theorem readLine_any (s : ByteArray) (w0 w : World) (hs : s.size ≤ 1048576) (hm : CmI w0 27 w) (hv : ErrV w) :
    Calls Tryz.prog 15 #[.string s, .map (some w0.heap.size)] w fun e w' => ∃ C ev, e = .returned (.tuple #[.agg C, ev]) ∧ LineR (parseL s.data.toList) w.heap.size C ev w' ∧ Below w.heap.size w w' := by
  have HLL := hide (show s.data.toList.length = s.size from rfl)
  obtain ⟨W, hW⟩ : ∃ W, W = w.alloc (.cells #[.int .i64 0, .int .i64 0, .int .i64 0, .int .i64 0, .int .i64 0, .string ⟨#[]⟩, .string ⟨#[]⟩, .slice none 0 0] 24) := ⟨_, rfl⟩
  have hB : Blk W w.heap.size noOp 24 := by rw [hW]; exact Blk.new w _ _
  have hbl : Below w.heap.size w W := by rw [hW]; exact (Below.refl _ _).alloc (Nat.le_refl _) _
  have hsz : W.heap.size = w.heap.size + 1 := by rw [hW]; simp
  have HW := hide hW
  have HB := hide hB
  have HBL := hide hbl
  have HM := hide (hm.below hbl)
  have HV := hide (hv.below hbl)
  have HSZ := hide hsz
  clear hW hB hbl hm hv hsz
  by_cases hL : 2048 < s.size
  · have HP := hide (parse_large (l := s.data.toList) (by rw [HLL.out]; exact hL))
    have hL2 : (2048 : Int) < (s.size : Int) := by omega
    go_enter Tryz.func15, Tryz.ntmps15
    go_upto_region 1 with fail
    rw [← HW.out]
    go_wp2_with (refine wpList_store_row rfl 24 _ _ rfl w.heap.size noOp rfl rfl 24 _ (HB.out.alloc _) infoO8 rfl noOp_one ?_)
    refine bodyPost_ret (v := .tuple #[.agg noOp, _]) (results_row_tmp rfl _ _ w.heap.size 24 noOp (0, 0) _ _ rfl rfl (err_post 23 HBL.out HB.out).2.2 Tryz.underlying24 rfl infoO8) rfl ⟨_, _, rfl, line_no HP.out (err_post 23 HBL.out HB.out).1, (err_post 23 HBL.out HB.out).2.1⟩
  have hL2 : ¬ (2048 : Int) < (s.size : Int) := by omega
  have HNL := hide (show ¬ 2048 < s.data.toList.length from by rw [HLL.out]; exact hL)
  go_enter Tryz.func15, Tryz.ntmps15
  go_upto_region 1 with fail
  rw [← HW.out]
  go_wp2_with (go_at_call 24; fail)
  refine (lineWords_any s _ hs).mono ?_
  rintro e w1 ⟨v1, rfl, o1, b1⟩
  rw [names_words, List.length_map, List.map_map] at o1
  have HB1 := hide (HB.out.below b1 (by have := HSZ.out; omega))
  have HBL1 := hide (HBL.out.trans (b1.mono HBL.out.size))
  have HM1 := hide (HM.out.below b1)
  have HV1 := hide (HV.out.below b1)
  clear b1 HB HBL HM HV HW
  cases hws : wordsL s.data.toList with
  | nil =>
    rw [hws] at o1
    have HP := hide (parse_none HNL.out hws)
    obtain ⟨va, vc, rfl⟩ := own_shapeT o1
    clear o1 hws
    go_wp2_with (refine wpList_store_row rfl 24 _ _ rfl w.heap.size noOp rfl rfl 24 _ (HB1.out.alloc _) infoO8 rfl noOp_one ?_)
    refine bodyPost_ret (v := .tuple #[.agg noOp, _]) (results_row_tmp rfl _ _ w.heap.size 24 noOp (0, 0) _ _ rfl rfl (err_post 25 HBL1.out HB1.out).2.2 Tryz.underlying24 rfl infoO8) rfl ⟨_, _, rfl, line_no HP.out (err_post 25 HBL1.out HB1.out).1, (err_post 25 HBL1.out HB1.out).2.1⟩
  | cons x xs =>
    rw [hws] at o1
    have HWS := hide hws
    have hsl := str_len hws
    rw [HLL.out] at hsl
    have HSL := hide hsl
    obtain ⟨g, cap, v', rfl, hn, hg0, hg1, c0, hrd, hslice⟩ := tail_words (x := x) (xs := xs) o1
    obtain ⟨n, hnn⟩ : ∃ n, n = (x :: xs).length := ⟨_, rfl⟩
    have hn1 : n = xs.length + 1 := by rw [hnn]; rfl
    rw [← hnn] at hslice ⊢
    have hn2 : 1 ≤ n ∧ n ≤ 1048577 := by omega
    have HRD := hide hrd
    have HN0 := hide (show w.heap.size < w1.heap.size from HB1.out.lt)
    clear o1 hws hsl hn hnn hn1 hrd
    obtain ⟨V, hV, hmb, hvals⟩ := HM1.out.ex
    have hlk := run_look (mk x) hV hmb
    rw [mk_toList] at hlk
    cases hc : cmdAt x with
    | none =>
      rw [hc] at hlk
      have hlk2 : (Instr.lookup 43 (.map (some w0.heap.size)) (.string (mk x)) true).run Tryz.prog w1 = .ok (.tuple #[.agg #[.int .i64 0, .nilFunc, .slice none 0 0], .bool false]) w1 := hlk
      have HP := hide (parse_word HNL.out HWS.out hc)
      have HB2 := hide (HB1.out.alloc (.cells #[.int .i64 0, .nilFunc, .slice none 0 0] 57))
      have HBL2 := hide (HBL1.out.alloc HBL1.out.size (.cells #[.int .i64 0, .nilFunc, .slice none 0 0] 57))
      have hsf : ∀ a w m, (store a .nilFunc m).run Tryz.prog w = stored Tryz.prog w a .nilFunc m := fun a w m => run_store _ w a _ m rfl
      clear hlk hc hmb hvals
      go_upto_region 8 with fail
      generalize w1.alloc (.cells #[.int .i64 0, .nilFunc, .slice none 0 0] 57) = W2 at HB2 HBL2 ⊢
      go_wp2_with (refine wpList_store_row rfl 24 _ _ rfl w.heap.size noOp rfl rfl 24 _ (HB2.out.alloc _) infoO8 rfl noOp_one ?_)
      refine bodyPost_ret (v := .tuple #[.agg noOp, _]) (results_row_tmp rfl _ _ w.heap.size 24 noOp (0, 0) _ _ rfl rfl (err_post 25 HBL2.out HB2.out).2.2 Tryz.underlying24 rfl infoO8) rfl ⟨_, _, rfl, line_no HP.out (err_post 25 HBL2.out HB2.out).1, (err_post 25 HBL2.out HB2.out).2.1⟩
    | some k =>
      rw [hc] at hlk
      have hk27 := cmd_lt hc
      obtain ⟨sl, hval, hco⟩ := hvals k (V.getD k undef) (by simp [List.getD, hV, hk27])
      have hlk2 : (Instr.lookup 43 (.map (some w0.heap.size)) (.string (mk x)) true).run Tryz.prog w1 = .ok (.tuple #[V.getD k undef, .bool true]) w1 := hlk
      rw [hval] at hlk2
      have HCO := hide hco
      have HC := hide hc
      obtain ⟨j, hj⟩ : ∃ j, j = cmdK.getD k 0 := ⟨_, rfl⟩
      have HJ := hide hj
      rw [← hj] at hlk2
      have hsl : ∃ a m c, sl = .slice a m c := by
        rcases hco with ⟨_, rfl⟩ | ⟨g, _, _, rfl, _⟩ <;> exact ⟨_, _, _, rfl⟩
      obtain ⟨sa, sm, sc, rfl⟩ := hsl
      clear hlk hc hmb hvals hval hco hj
      have hfv : (∃ f, fnV j = .func (.func f) #[] #[]) := by unfold fnV; split <;> exact ⟨_, rfl⟩
      obtain ⟨fn, hfn⟩ := hfv
      have HFN := hide hfn
      rw [hfn] at hlk2
      clear hfn
      have hst := cmd_post (w1 := w1) #[.int .i64 ((k : Int) + 1), .func (.func fn) #[] #[], .slice sa sm sc]
      obtain ⟨W2, hW2⟩ : ∃ W2, W2 = w1.alloc (.cells #[.int .i64 ((k : Int) + 1), .func (.func fn) #[] #[], .slice sa sm sc] 57) := ⟨_, rfl⟩
      rw [← hW2] at hst
      obtain ⟨kb, bb, sb⟩ := hst
      have HB2 := hide (HB1.out.below bb (HB1.out.lt))
      have HBL2 := hide (HBL1.out.trans (bb.mono HBL1.out.size))
      have HKB := hide kb
      have HSB := hide sb
      have HV2 := hide (HV1.out.below bb)
      have HRD2 := hide (HRD.out.below bb)
      have HCO2 := hide ((HCO.out.keep bb.size (fun g _ hg => bb.block g hg)).rd (cmdF_small k hk27))
      have HW2 := hide hW2
      have hsf : ∀ a w m, (store a (.func (.func fn) #[] #[]) m).run Tryz.prog w = stored Tryz.prog w a (.func (.func fn) #[] #[]) m := fun a w m => run_store _ w a _ m rfl
      clear hW2 kb bb sb HRD HCO HB1 HBL1 HV1
      go_upto_region 9 with fail
      rw [← HW2.out]
      refine wp_region_noPanic ?_
      refine wp_region_held_drew (S := fun w' => w'.cell? ⟨w1.heap.size, 2, none⟩ = some (.slice sa sm sc)) (by kernel_rfl) ((HKB.out.cell 2).trans rfl) (fun hH => ?_)
      refine wpAnyH_take (i := 0) (oi := _) (v := .slice (some ⟨g, 0, none⟩) n cap) rfl (by kernel_rfl) (by kernel_rfl) (by kernel_rfl) (fun _ _ _ h => h) (Or.inl ⟨by rfl, fun w' hw' => by go_simp⟩) hH ?_
      try simp only [Act.put, List.getElem_toArray, List.getElem_cons_zero, List.getElem_cons_succ, List.setIfInBounds_toArray, List.set_cons_zero, List.set_cons_succ]
      refine wpAnyH_take (i := 1) (oi := _) (v := v') rfl (by kernel_rfl) (by kernel_rfl) (by kernel_rfl) (fun _ _ _ h => h) (Or.inl ⟨by rfl, fun w' hw' => by have hq := hslice; go_simp⟩) hH ?_
      try simp only [Act.put, List.getElem_toArray, List.getElem_cons_zero, List.getElem_cons_succ, List.setIfInBounds_toArray, List.set_cons_zero, List.set_cons_succ]
      refine wpAnyH_take (i := 2) (oi := _) (v := .pointer (some ⟨w1.heap.size, 2, none⟩)) rfl (by kernel_rfl) (by kernel_rfl) (by kernel_rfl) (fun _ _ _ h => h) (Or.inl ⟨by rfl, fun w' hw' => by go_simp⟩) hH ?_
      try simp only [Act.put, List.getElem_toArray, List.getElem_cons_zero, List.getElem_cons_succ, List.setIfInBounds_toArray, List.set_cons_zero, List.set_cons_succ]
      refine wpAnyH_take (i := 3) (oi := _) (v := .slice sa sm sc) rfl (by kernel_rfl) (by kernel_rfl) (by kernel_rfl) (fun _ _ _ h => h) (Or.inl ⟨by rfl, fun w' hw' => by have hc := hw'; clear hw'; go_simp⟩) hH ?_
      try simp only [Act.put, List.getElem_toArray, List.getElem_cons_zero, List.getElem_cons_succ, List.setIfInBounds_toArray, List.set_cons_zero, List.set_cons_succ]
      refine wpAnyH_ready (rs := [4]) (by kernel_rfl) (by simp) ?_
      refine AllReadyH.cons (o := _) rfl ?_ AllReadyH.nil
      intro K hK
      go_simp
      refine (rwords_any (cmdF.getD k []) xs v' (.slice sa sm sc) W2.drew (HRD2.out.below (Below.refl _ _).drew) (HCO2.out.below (Below.refl _ _).drew) (fun y hy => Nat.le_trans (HSL.out.1 y hy) hs) (Nat.le_trans HSL.out.2.2 (by omega)) (cmdF_small k hk27) (HV2.out.below (Below.refl _ _).drew)).mono ?_
      rintro e w5 ⟨v5, ev5, rfl, hsays, b5⟩
      have b6 : Below W2.heap.size W2 w5 := (Below.refl _ W2).drew.trans b5
      have HB5 := hide (HB2.out.below b6 HB2.out.lt)
      have HBL5 := hide (HBL2.out.trans (b6.mono HBL2.out.size))
      have HK5 := hide (HKB.out.below b6 HKB.out.lt)
      have HSY := hide (show SaysR (if xs.length = (cmdF.getD k []).length then sayAll (cmdF.getD k []) xs else .error 26) W2.heap.size v5 ev5 w5 from hsays)
      refine hK.out _ _ ((HK5.out.cell 2).trans rfl) (fun hH5 => ?_)
      clear hK K hH hsays b5 b6 HB2 HBL2 HKB HV2 HRD2 HCO2
      try simp only [Act.put, List.getElem_toArray, List.getElem_cons_zero, List.getElem_cons_succ, List.setIfInBounds_toArray, List.set_cons_zero, List.set_cons_succ]
      refine wpAnyH_take (i := 5) (oi := _) (v := .tuple #[v5, ev5]) rfl (by kernel_rfl) (by kernel_rfl) (by kernel_rfl) (fun _ _ _ h => h) (Or.inl ⟨by rfl, fun w' hw' => by go_simp⟩) hH5 ?_
      try simp only [Act.put, List.getElem_toArray, List.getElem_cons_zero, List.getElem_cons_succ, List.setIfInBounds_toArray, List.set_cons_zero, List.set_cons_succ]
      refine wpAnyH_take (i := 6) (oi := _) (v := v5) rfl (by kernel_rfl) (by kernel_rfl) (by kernel_rfl) (fun _ _ _ h => h) (Or.inl ⟨by rfl, fun w' hw' => by go_simp⟩) hH5 ?_
      try simp only [Act.put, List.getElem_toArray, List.getElem_cons_zero, List.getElem_cons_succ, List.setIfInBounds_toArray, List.set_cons_zero, List.set_cons_succ]
      refine wpAnyH_take (i := 7) (oi := _) (v := ev5) rfl (by kernel_rfl) (by kernel_rfl) (by kernel_rfl) (fun _ _ _ h => h) (Or.inl ⟨by rfl, fun w' hw' => by go_simp⟩) hH5 ?_
      try simp only [Act.put, List.getElem_toArray, List.getElem_cons_zero, List.getElem_cons_succ, List.setIfInBounds_toArray, List.set_cons_zero, List.set_cons_succ]
      refine wpAnyH_take (i := 8) (oi := _) (v := v5) rfl (by kernel_rfl) (by kernel_rfl) (by kernel_rfl) (fun _ _ _ h => h) (Or.inl ⟨by rfl, fun w' hw' => by go_simp⟩) hH5 ?_
      try simp only [Act.put, List.getElem_toArray, List.getElem_cons_zero, List.getElem_cons_succ, List.setIfInBounds_toArray, List.set_cons_zero, List.set_cons_succ]
      refine wpAnyH_take (i := 9) (oi := _) (v := ev5) rfl (by kernel_rfl) (by kernel_rfl) (by kernel_rfl) (fun _ _ _ h => h) (Or.inl ⟨by rfl, fun w' hw' => by go_simp⟩) hH5 ?_
      try simp only [Act.put, List.getElem_toArray, List.getElem_cons_zero, List.getElem_cons_succ, List.setIfInBounds_toArray, List.set_cons_zero, List.set_cons_succ]
      refine wpAnyH_done (by kernel_rfl) (NoPanic.normal ?_) _
      obtain ⟨y, hy⟩ : ∃ y, y = (if xs.length = (cmdF.getD k []).length then sayAll (cmdF.getD k []) xs else .error 26) := ⟨_, rfl⟩
      rw [← hy] at HSY
      have HY := hide hy
      have HLT := hide (show w.heap.size < W2.heap.size from by have := HSB.out; have := HB5.out.lt; have h9 := HN0.out; omega)
      clear hy
      cases y with
      | error c =>
        obtain ⟨rfl, m, hm⟩ := HSY.out
        have HP := hide (parse_says HNL.out HWS.out HC.out HY.out.symm)
        have HF := hide ((flt_row (cs := noOp) hm HLT.out).mono (Nat.le_of_lt HLT.out))
        obtain ⟨t', x', rfl⟩ := hm.iface
        clear hm HSY HY
        go_wp2_with (refine wpList_store_row rfl 24 _ _ rfl w.heap.size noOp rfl rfl 24 _ HB5.out infoO8 rfl noOp_one ?_)
        exact bodyPost_ret (v := .tuple #[.agg noOp, _]) (results_row_tmp rfl _ _ w.heap.size 24 noOp (0, 0) _ _ rfl rfl (HB5.out.row noOp) Tryz.underlying24 rfl infoO8) rfl ⟨_, _, rfl, line_no HP.out HF.out, below_setRowP HBL5.out (Nat.le_refl _) _⟩
      | ok L =>
        obtain ⟨rfl, vs, hown⟩ := HSY.out
        have HP := hide (parse_oks HNL.out HWS.out HC.out HY.out.symm)
        have HO := hide hown
        have hneed := cmd_need k hk27
        rw [← HJ.out, ← HP.out.2] at hneed
        rw [← HJ.out] at HP
        have hj8 : j ≤ 8 := by rw [HJ.out]; exact cmdK_le k hk27
        have hfn := HFN.out
        obtain ⟨va, vn, vc, rfl⟩ : ∃ a n c, v5 = .slice a n c := by obtain ⟨a, c, e⟩ := own_shape hown.row; exact ⟨a, _, c, e⟩
        have d0 := (HK5.out.cell 0).trans (show _ = some (.int .i64 ((k : Int) + 1)) from rfl)
        have d1 := (HK5.out.cell 1).trans (show _ = some (.func (.func fn) #[] #[]) from rfl)
        have d2 := (HK5.out.cell 2).trans (show _ = some (.slice sa sm sc) from rfl)
        obtain ⟨W6, hW6⟩ : ∃ W6, W6 = w5.alloc (.cells #[.int .i64 ((k : Int) + 1), .int .i64 0, .int .i64 0, .int .i64 0, .int .i64 0, .string ⟨#[]⟩, .string ⟨#[]⟩, .slice none 0 0] 24) := ⟨_, rfl⟩
        have b6 : Below w5.heap.size w5 W6 := by rw [hW6]; exact (Below.refl _ _).alloc (Nat.le_refl _) _
        have HB6 := hide (HB5.out.below b6 HB5.out.lt)
        have HBL6 := hide (HBL5.out.trans (b6.mono HBL5.out.size))
        have HK6 := hide (show Blk W6 w5.heap.size (opC ((k : Int) + 1) 0 0 0 0 ⟨#[]⟩ ⟨#[]⟩ (.slice none 0 0)) 24 from by rw [hW6]; exact Blk.new w5 _ _)
        have HO6 := hide (HO.out.below b6)
        have HW6 := hide hW6
        have HNB := hide (show w.heap.size ≠ w5.heap.size from by have := HB5.out.lt; omega)
        have d6 := (b6.cell (p := ⟨w1.heap.size, 1, none⟩) HK5.out.lt).trans d1
        have HJ9 := hide HJ.out
        clear hW6 b6 hown HSY HY HO HJ HFN
        match j, hj8, hfn, hneed, HP with
        | 0, _, hfn, hneed, HP =>
          injection hfn with hfn
          injection hfn with hfn
          subst hfn
          go_upto_region 13 with fail
          rw [← HW6.out]
          go_wp2_with (go_at_call 31; fail)
          refine (fillNothing_any _ _ W6).mono ?_
          rintro e w7 ⟨rfl, hw7⟩
          have b7 : Blk w7 w5.heap.size (opC ((k : Int) + 1) 0 0 0 0 ⟨#[]⟩ ⟨#[]⟩ (.slice none 0 0)) 24 := by rw [hw7]; exact HK6.out
          have g7 : W6.grownBy w7 (some w5.heap.size) := by rw [hw7]; exact World.grownBy.refl _ _
          clear hw7
          have HB7 := hide (show Blk w7 w.heap.size noOp 24 from (g7.block _ HB6.out.lt (by intro e; exact HNB.out (Option.some.inj e))).trans HB6.out)
          have HBL7 := hide (HBL6.out.grown g7 HBL6.out.size (fun r hr => by cases hr; exact HBL5.out.size))
          have HK7 := hide b7
          clear b7 g7
          go_wp2_with (first | (refine wpList_load_row rfl 24 _ rfl w5.heap.size rfl 24 (opC ((k : Int) + 1) 0 0 0 0 ⟨#[]⟩ ⟨#[]⟩ (.slice none 0 0)) (0, 0) _ HK7.out Tryz.underlying24 rfl infoO8 ?_) | (refine wpList_store_row rfl 24 _ _ rfl w.heap.size (opC ((k : Int) + 1) 0 0 0 0 ⟨#[]⟩ ⟨#[]⟩ (.slice none 0 0)) rfl rfl 24 _ HB7.out infoO8 rfl (opC_one _ _ _ _ _ _ _ _ _ _) ?_))
          exact bodyPost_ret (v := .tuple #[.agg (opC ((k : Int) + 1) 0 0 0 0 ⟨#[]⟩ ⟨#[]⟩ (.slice none 0 0)), .nilIface]) (results_row_tmp rfl _ _ w.heap.size 24 (opC ((k : Int) + 1) 0 0 0 0 ⟨#[]⟩ ⟨#[]⟩ (.slice none 0 0)) (0, 0) _ _ rfl rfl (HB7.out.row _) Tryz.underlying24 rfl infoO8) rfl ⟨_, _, rfl, line_yes HP.out.1 (by rw [show ((k + 1 : Nat) : Int) = (k : Int) + 1 from by omega]; rfl) (World.ownsRow_nil _ _ _ _), below_setRowP HBL7.out (Nat.le_refl _) _⟩
        | 1, _, hfn, hneed, HP =>
          injection hfn with hfn
          injection hfn with hfn
          subst hfn
          go_upto_region 13 with fail
          rw [← HW6.out]
          go_wp2_with (go_at_call 28; fail)
          refine (fillPath_any ((k : Int) + 1) 0 0 0 0 ⟨#[]⟩ ⟨#[]⟩ (.slice none 0 0) w5.heap.size W2.heap.size _ L vs W6 ⟨_, _, _, rfl⟩ HO6.out HK6.out _ (getD_some (by rw [hneed]; decide))).mono ?_
          rintro e w7 ⟨rfl, b7, g7⟩
          have HB7 := hide (show Blk w7 w.heap.size noOp 24 from (g7.block _ HB6.out.lt (by intro e; exact HNB.out (Option.some.inj e))).trans HB6.out)
          have HBL7 := hide (HBL6.out.grown g7 HBL6.out.size (fun r hr => by cases hr; exact HBL5.out.size))
          have HK7 := hide b7
          clear b7 g7
          go_wp2_with (first | (refine wpList_load_row rfl 24 _ rfl w5.heap.size rfl 24 (opC ((k : Int) + 1) 0 0 0 0 (mk (L.getD 0 (0, [])).2) ⟨#[]⟩ (.slice none 0 0)) (0, 0) _ HK7.out Tryz.underlying24 rfl infoO8 ?_) | (refine wpList_store_row rfl 24 _ _ rfl w.heap.size (opC ((k : Int) + 1) 0 0 0 0 (mk (L.getD 0 (0, [])).2) ⟨#[]⟩ (.slice none 0 0)) rfl rfl 24 _ HB7.out infoO8 rfl (opC_one _ _ _ _ _ _ _ _ _ _) ?_))
          exact bodyPost_ret (v := .tuple #[.agg (opC ((k : Int) + 1) 0 0 0 0 (mk (L.getD 0 (0, [])).2) ⟨#[]⟩ (.slice none 0 0)), .nilIface]) (results_row_tmp rfl _ _ w.heap.size 24 (opC ((k : Int) + 1) 0 0 0 0 (mk (L.getD 0 (0, [])).2) ⟨#[]⟩ (.slice none 0 0)) (0, 0) _ _ rfl rfl (HB7.out.row _) Tryz.underlying24 rfl infoO8) rfl ⟨_, _, rfl, line_yes HP.out.1 (by rw [show ((k + 1 : Nat) : Int) = (k : Int) + 1 from by omega]; rfl) (World.ownsRow_nil _ _ _ _), below_setRowP HBL7.out (Nat.le_refl _) _⟩
        | 2, _, hfn, hneed, HP =>
          injection hfn with hfn
          injection hfn with hfn
          subst hfn
          go_upto_region 13 with fail
          rw [← HW6.out]
          go_wp2_with (go_at_call 27; fail)
          refine (fillPaths_any ((k : Int) + 1) 0 0 0 0 ⟨#[]⟩ ⟨#[]⟩ (.slice none 0 0) w5.heap.size W2.heap.size _ L vs W6 ⟨_, _, _, rfl⟩ HO6.out HK6.out _ (getD_some (by rw [hneed]; decide)) _ (getD_some (by rw [hneed]; decide))).mono ?_
          rintro e w7 ⟨rfl, b7, g7⟩
          have HB7 := hide (show Blk w7 w.heap.size noOp 24 from (g7.block _ HB6.out.lt (by intro e; exact HNB.out (Option.some.inj e))).trans HB6.out)
          have HBL7 := hide (HBL6.out.grown g7 HBL6.out.size (fun r hr => by cases hr; exact HBL5.out.size))
          have HK7 := hide b7
          clear b7 g7
          go_wp2_with (first | (refine wpList_load_row rfl 24 _ rfl w5.heap.size rfl 24 (opC ((k : Int) + 1) 0 0 0 0 (mk (L.getD 0 (0, [])).2) (mk (L.getD 1 (0, [])).2) (.slice none 0 0)) (0, 0) _ HK7.out Tryz.underlying24 rfl infoO8 ?_) | (refine wpList_store_row rfl 24 _ _ rfl w.heap.size (opC ((k : Int) + 1) 0 0 0 0 (mk (L.getD 0 (0, [])).2) (mk (L.getD 1 (0, [])).2) (.slice none 0 0)) rfl rfl 24 _ HB7.out infoO8 rfl (opC_one _ _ _ _ _ _ _ _ _ _) ?_))
          exact bodyPost_ret (v := .tuple #[.agg (opC ((k : Int) + 1) 0 0 0 0 (mk (L.getD 0 (0, [])).2) (mk (L.getD 1 (0, [])).2) (.slice none 0 0)), .nilIface]) (results_row_tmp rfl _ _ w.heap.size 24 (opC ((k : Int) + 1) 0 0 0 0 (mk (L.getD 0 (0, [])).2) (mk (L.getD 1 (0, [])).2) (.slice none 0 0)) (0, 0) _ _ rfl rfl (HB7.out.row _) Tryz.underlying24 rfl infoO8) rfl ⟨_, _, rfl, line_yes HP.out.1 (by rw [show ((k + 1 : Nat) : Int) = (k : Int) + 1 from by omega]; rfl) (World.ownsRow_nil _ _ _ _), below_setRowP HBL7.out (Nat.le_refl _) _⟩
        | 3, _, hfn, hneed, HP =>
          injection hfn with hfn
          injection hfn with hfn
          subst hfn
          go_upto_region 13 with fail
          rw [← HW6.out]
          go_wp2_with (go_at_call 26; fail)
          refine (fillPN_any ((k : Int) + 1) 0 0 0 0 ⟨#[]⟩ ⟨#[]⟩ (.slice none 0 0) w5.heap.size W2.heap.size _ L vs W6 ⟨_, _, _, rfl⟩ HO6.out HK6.out _ (getD_some (by rw [hneed]; decide)) _ (getD_some (by rw [hneed]; decide))).mono ?_
          rintro e w7 ⟨rfl, b7, g7⟩
          have HB7 := hide (show Blk w7 w.heap.size noOp 24 from (g7.block _ HB6.out.lt (by intro e; exact HNB.out (Option.some.inj e))).trans HB6.out)
          have HBL7 := hide (HBL6.out.grown g7 HBL6.out.size (fun r hr => by cases hr; exact HBL5.out.size))
          have HK7 := hide b7
          clear b7 g7
          go_wp2_with (first | (refine wpList_load_row rfl 24 _ rfl w5.heap.size rfl 24 (opC ((k : Int) + 1) (L.getD 1 (0, [])).1 0 0 0 (mk (L.getD 0 (0, [])).2) ⟨#[]⟩ (.slice none 0 0)) (0, 0) _ HK7.out Tryz.underlying24 rfl infoO8 ?_) | (refine wpList_store_row rfl 24 _ _ rfl w.heap.size (opC ((k : Int) + 1) (L.getD 1 (0, [])).1 0 0 0 (mk (L.getD 0 (0, [])).2) ⟨#[]⟩ (.slice none 0 0)) rfl rfl 24 _ HB7.out infoO8 rfl (opC_one _ _ _ _ _ _ _ _ _ _) ?_))
          exact bodyPost_ret (v := .tuple #[.agg (opC ((k : Int) + 1) (L.getD 1 (0, [])).1 0 0 0 (mk (L.getD 0 (0, [])).2) ⟨#[]⟩ (.slice none 0 0)), .nilIface]) (results_row_tmp rfl _ _ w.heap.size 24 (opC ((k : Int) + 1) (L.getD 1 (0, [])).1 0 0 0 (mk (L.getD 0 (0, [])).2) ⟨#[]⟩ (.slice none 0 0)) (0, 0) _ _ rfl rfl (HB7.out.row _) Tryz.underlying24 rfl infoO8) rfl ⟨_, _, rfl, line_yes HP.out.1 (by rw [show ((k + 1 : Nat) : Int) = (k : Int) + 1 from by omega]; rfl) (World.ownsRow_nil _ _ _ _), below_setRowP HBL7.out (Nat.le_refl _) _⟩
        | 4, _, hfn, hneed, HP =>
          injection hfn with hfn
          injection hfn with hfn
          subst hfn
          go_upto_region 13 with fail
          rw [← HW6.out]
          go_wp2_with (go_at_call 30; fail)
          refine (fillPNN_any ((k : Int) + 1) 0 0 0 0 ⟨#[]⟩ ⟨#[]⟩ (.slice none 0 0) w5.heap.size W2.heap.size _ L vs W6 ⟨_, _, _, rfl⟩ HO6.out HK6.out _ (getD_some (by rw [hneed]; decide)) _ (getD_some (by rw [hneed]; decide)) _ (getD_some (by rw [hneed]; decide))).mono ?_
          rintro e w7 ⟨rfl, b7, g7⟩
          have HB7 := hide (show Blk w7 w.heap.size noOp 24 from (g7.block _ HB6.out.lt (by intro e; exact HNB.out (Option.some.inj e))).trans HB6.out)
          have HBL7 := hide (HBL6.out.grown g7 HBL6.out.size (fun r hr => by cases hr; exact HBL5.out.size))
          have HK7 := hide b7
          clear b7 g7
          go_wp2_with (first | (refine wpList_load_row rfl 24 _ rfl w5.heap.size rfl 24 (opC ((k : Int) + 1) (L.getD 1 (0, [])).1 (L.getD 2 (0, [])).1 0 0 (mk (L.getD 0 (0, [])).2) ⟨#[]⟩ (.slice none 0 0)) (0, 0) _ HK7.out Tryz.underlying24 rfl infoO8 ?_) | (refine wpList_store_row rfl 24 _ _ rfl w.heap.size (opC ((k : Int) + 1) (L.getD 1 (0, [])).1 (L.getD 2 (0, [])).1 0 0 (mk (L.getD 0 (0, [])).2) ⟨#[]⟩ (.slice none 0 0)) rfl rfl 24 _ HB7.out infoO8 rfl (opC_one _ _ _ _ _ _ _ _ _ _) ?_))
          exact bodyPost_ret (v := .tuple #[.agg (opC ((k : Int) + 1) (L.getD 1 (0, [])).1 (L.getD 2 (0, [])).1 0 0 (mk (L.getD 0 (0, [])).2) ⟨#[]⟩ (.slice none 0 0)), .nilIface]) (results_row_tmp rfl _ _ w.heap.size 24 (opC ((k : Int) + 1) (L.getD 1 (0, [])).1 (L.getD 2 (0, [])).1 0 0 (mk (L.getD 0 (0, [])).2) ⟨#[]⟩ (.slice none 0 0)) (0, 0) _ _ rfl rfl (HB7.out.row _) Tryz.underlying24 rfl infoO8) rfl ⟨_, _, rfl, line_yes HP.out.1 (by rw [show ((k + 1 : Nat) : Int) = (k : Int) + 1 from by omega]; rfl) (World.ownsRow_nil _ _ _ _), below_setRowP HBL7.out (Nat.le_refl _) _⟩
        | 5, _, hfn, hneed, HP =>
          injection hfn with hfn
          injection hfn with hfn
          subst hfn
          go_upto_region 13 with fail
          rw [← HW6.out]
          go_wp2_with (go_at_call 29; fail)
          refine (fillPND_any ((k : Int) + 1) 0 0 0 0 ⟨#[]⟩ ⟨#[]⟩ (.slice none 0 0) w5.heap.size W2.heap.size _ L vs W6 ⟨_, _, _, rfl⟩ HO6.out HK6.out _ (getD_some (by rw [hneed]; decide)) _ (getD_some (by rw [hneed]; decide)) _ (getD_some (by rw [hneed]; decide))).mono ?_
          rintro e w7 ⟨rfl, u, ⟨ua, uk, uc, rfl⟩, huv, b7, g7⟩
          have HB7 := hide (show Blk w7 w.heap.size noOp 24 from (g7.block _ HB6.out.lt (by intro e; exact HNB.out (Option.some.inj e))).trans HB6.out)
          have HBL7 := hide (HBL6.out.grown g7 HBL6.out.size (fun r hr => by cases hr; exact HBL5.out.size))
          have HK7 := hide b7
          have HO7 := hide (own_mono (own_rowP (((HO6.out.dat 2 _ (neS (L.getD 2 (0, []))) huv (by rw [List.getElem?_map, getD_some (by rw [hneed]; decide)]; rfl)).kept g7 (own_offB (HO6.out.dat 2 _ (neS (L.getD 2 (0, []))) huv (by rw [List.getElem?_map, getD_some (by rw [hneed]; decide)]; rfl)) HK6.out (by decide)))) w.heap.size (opC ((k : Int) + 1) (L.getD 1 (0, [])).1 0 0 0 (mk (L.getD 0 (0, [])).2) ⟨#[]⟩ (.slice ua uk uc)) HLT.out) (Nat.le_of_lt HLT.out))
          clear b7 g7 huv
          go_wp2_with (first | (refine wpList_load_row rfl 24 _ rfl w5.heap.size rfl 24 (opC ((k : Int) + 1) (L.getD 1 (0, [])).1 0 0 0 (mk (L.getD 0 (0, [])).2) ⟨#[]⟩ (.slice ua uk uc)) (0, 0) _ HK7.out Tryz.underlying24 rfl infoO8 ?_) | (refine wpList_store_row rfl 24 _ _ rfl w.heap.size (opC ((k : Int) + 1) (L.getD 1 (0, [])).1 0 0 0 (mk (L.getD 0 (0, [])).2) ⟨#[]⟩ (.slice ua uk uc)) rfl rfl 24 _ HB7.out infoO8 rfl (opC_one _ _ _ _ _ _ _ _ _ _) ?_))
          exact bodyPost_ret (v := .tuple #[.agg (opC ((k : Int) + 1) (L.getD 1 (0, [])).1 0 0 0 (mk (L.getD 0 (0, [])).2) ⟨#[]⟩ (.slice ua uk uc)), .nilIface]) (results_row_tmp rfl _ _ w.heap.size 24 (opC ((k : Int) + 1) (L.getD 1 (0, [])).1 0 0 0 (mk (L.getD 0 (0, [])).2) ⟨#[]⟩ (.slice ua uk uc)) (0, 0) _ _ rfl rfl (HB7.out.row _) Tryz.underlying24 rfl infoO8) rfl ⟨_, _, rfl, line_yes HP.out.1 (by rw [show ((k + 1 : Nat) : Int) = (k : Int) + 1 from by omega]; rfl) (by have h := HO7.out; simp only [neS] at h; rw [← bytes_neS, List.length_map] at h; exact h), below_setRowP HBL7.out (Nat.le_refl _) _⟩
        | 6, _, hfn, hneed, HP =>
          injection hfn with hfn
          injection hfn with hfn
          subst hfn
          go_upto_region 13 with fail
          rw [← HW6.out]
          go_wp2_with (go_at_call 32; fail)
          refine (fillD_any ((k : Int) + 1) 0 0 0 0 ⟨#[]⟩ ⟨#[]⟩ (.slice none 0 0) w5.heap.size W2.heap.size _ L vs W6 ⟨_, _, _, rfl⟩ HO6.out HK6.out _ (getD_some (by rw [hneed]; decide))).mono ?_
          rintro e w7 ⟨rfl, u, ⟨ua, uk, uc, rfl⟩, huv, b7, g7⟩
          have HB7 := hide (show Blk w7 w.heap.size noOp 24 from (g7.block _ HB6.out.lt (by intro e; exact HNB.out (Option.some.inj e))).trans HB6.out)
          have HBL7 := hide (HBL6.out.grown g7 HBL6.out.size (fun r hr => by cases hr; exact HBL5.out.size))
          have HK7 := hide b7
          have HO7 := hide (own_mono (own_rowP (((HO6.out.dat 0 _ (neS (L.getD 0 (0, []))) huv (by rw [List.getElem?_map, getD_some (by rw [hneed]; decide)]; rfl)).kept g7 (own_offB (HO6.out.dat 0 _ (neS (L.getD 0 (0, []))) huv (by rw [List.getElem?_map, getD_some (by rw [hneed]; decide)]; rfl)) HK6.out (by decide)))) w.heap.size (opC ((k : Int) + 1) 0 0 0 0 ⟨#[]⟩ ⟨#[]⟩ (.slice ua uk uc)) HLT.out) (Nat.le_of_lt HLT.out))
          clear b7 g7 huv
          go_wp2_with (first | (refine wpList_load_row rfl 24 _ rfl w5.heap.size rfl 24 (opC ((k : Int) + 1) 0 0 0 0 ⟨#[]⟩ ⟨#[]⟩ (.slice ua uk uc)) (0, 0) _ HK7.out Tryz.underlying24 rfl infoO8 ?_) | (refine wpList_store_row rfl 24 _ _ rfl w.heap.size (opC ((k : Int) + 1) 0 0 0 0 ⟨#[]⟩ ⟨#[]⟩ (.slice ua uk uc)) rfl rfl 24 _ HB7.out infoO8 rfl (opC_one _ _ _ _ _ _ _ _ _ _) ?_))
          exact bodyPost_ret (v := .tuple #[.agg (opC ((k : Int) + 1) 0 0 0 0 ⟨#[]⟩ ⟨#[]⟩ (.slice ua uk uc)), .nilIface]) (results_row_tmp rfl _ _ w.heap.size 24 (opC ((k : Int) + 1) 0 0 0 0 ⟨#[]⟩ ⟨#[]⟩ (.slice ua uk uc)) (0, 0) _ _ rfl rfl (HB7.out.row _) Tryz.underlying24 rfl infoO8) rfl ⟨_, _, rfl, line_yes HP.out.1 (by rw [show ((k + 1 : Nat) : Int) = (k : Int) + 1 from by omega]; rfl) (by have h := HO7.out; simp only [neS] at h; rw [← bytes_neS, List.length_map] at h; exact h), below_setRowP HBL7.out (Nat.le_refl _) _⟩
        | 7, _, hfn, hneed, HP =>
          injection hfn with hfn
          injection hfn with hfn
          subst hfn
          go_upto_region 13 with fail
          rw [← HW6.out]
          go_wp2_with (go_at_call 33; fail)
          refine (fillN_any ((k : Int) + 1) 0 0 0 0 ⟨#[]⟩ ⟨#[]⟩ (.slice none 0 0) w5.heap.size W2.heap.size _ L vs W6 ⟨_, _, _, rfl⟩ HO6.out HK6.out _ (getD_some (by rw [hneed]; decide))).mono ?_
          rintro e w7 ⟨rfl, b7, g7⟩
          have HB7 := hide (show Blk w7 w.heap.size noOp 24 from (g7.block _ HB6.out.lt (by intro e; exact HNB.out (Option.some.inj e))).trans HB6.out)
          have HBL7 := hide (HBL6.out.grown g7 HBL6.out.size (fun r hr => by cases hr; exact HBL5.out.size))
          have HK7 := hide b7
          clear b7 g7
          go_wp2_with (first | (refine wpList_load_row rfl 24 _ rfl w5.heap.size rfl 24 (opC ((k : Int) + 1) (L.getD 0 (0, [])).1 0 0 0 ⟨#[]⟩ ⟨#[]⟩ (.slice none 0 0)) (0, 0) _ HK7.out Tryz.underlying24 rfl infoO8 ?_) | (refine wpList_store_row rfl 24 _ _ rfl w.heap.size (opC ((k : Int) + 1) (L.getD 0 (0, [])).1 0 0 0 ⟨#[]⟩ ⟨#[]⟩ (.slice none 0 0)) rfl rfl 24 _ HB7.out infoO8 rfl (opC_one _ _ _ _ _ _ _ _ _ _) ?_))
          exact bodyPost_ret (v := .tuple #[.agg (opC ((k : Int) + 1) (L.getD 0 (0, [])).1 0 0 0 ⟨#[]⟩ ⟨#[]⟩ (.slice none 0 0)), .nilIface]) (results_row_tmp rfl _ _ w.heap.size 24 (opC ((k : Int) + 1) (L.getD 0 (0, [])).1 0 0 0 ⟨#[]⟩ ⟨#[]⟩ (.slice none 0 0)) (0, 0) _ _ rfl rfl (HB7.out.row _) Tryz.underlying24 rfl infoO8) rfl ⟨_, _, rfl, line_yes HP.out.1 (by rw [show ((k + 1 : Nat) : Int) = (k : Int) + 1 from by omega]; rfl) (World.ownsRow_nil _ _ _ _), below_setRowP HBL7.out (Nat.le_refl _) _⟩
        | 8, _, hfn, hneed, HP =>
          injection hfn with hfn
          injection hfn with hfn
          subst hfn
          go_upto_region 13 with fail
          rw [← HW6.out]
          go_wp2_with (go_at_call 34; fail)
          refine (fillND_any ((k : Int) + 1) 0 0 0 0 ⟨#[]⟩ ⟨#[]⟩ (.slice none 0 0) w5.heap.size W2.heap.size _ L vs W6 ⟨_, _, _, rfl⟩ HO6.out HK6.out _ (getD_some (by rw [hneed]; decide)) _ (getD_some (by rw [hneed]; decide))).mono ?_
          rintro e w7 ⟨rfl, u, ⟨ua, uk, uc, rfl⟩, huv, b7, g7⟩
          have HB7 := hide (show Blk w7 w.heap.size noOp 24 from (g7.block _ HB6.out.lt (by intro e; exact HNB.out (Option.some.inj e))).trans HB6.out)
          have HBL7 := hide (HBL6.out.grown g7 HBL6.out.size (fun r hr => by cases hr; exact HBL5.out.size))
          have HK7 := hide b7
          have HO7 := hide (own_mono (own_rowP (((HO6.out.dat 1 _ (neS (L.getD 1 (0, []))) huv (by rw [List.getElem?_map, getD_some (by rw [hneed]; decide)]; rfl)).kept g7 (own_offB (HO6.out.dat 1 _ (neS (L.getD 1 (0, []))) huv (by rw [List.getElem?_map, getD_some (by rw [hneed]; decide)]; rfl)) HK6.out (by decide)))) w.heap.size (opC ((k : Int) + 1) (L.getD 0 (0, [])).1 0 0 0 ⟨#[]⟩ ⟨#[]⟩ (.slice ua uk uc)) HLT.out) (Nat.le_of_lt HLT.out))
          clear b7 g7 huv
          go_wp2_with (first | (refine wpList_load_row rfl 24 _ rfl w5.heap.size rfl 24 (opC ((k : Int) + 1) (L.getD 0 (0, [])).1 0 0 0 ⟨#[]⟩ ⟨#[]⟩ (.slice ua uk uc)) (0, 0) _ HK7.out Tryz.underlying24 rfl infoO8 ?_) | (refine wpList_store_row rfl 24 _ _ rfl w.heap.size (opC ((k : Int) + 1) (L.getD 0 (0, [])).1 0 0 0 ⟨#[]⟩ ⟨#[]⟩ (.slice ua uk uc)) rfl rfl 24 _ HB7.out infoO8 rfl (opC_one _ _ _ _ _ _ _ _ _ _) ?_))
          exact bodyPost_ret (v := .tuple #[.agg (opC ((k : Int) + 1) (L.getD 0 (0, [])).1 0 0 0 ⟨#[]⟩ ⟨#[]⟩ (.slice ua uk uc)), .nilIface]) (results_row_tmp rfl _ _ w.heap.size 24 (opC ((k : Int) + 1) (L.getD 0 (0, [])).1 0 0 0 ⟨#[]⟩ ⟨#[]⟩ (.slice ua uk uc)) (0, 0) _ _ rfl rfl (HB7.out.row _) Tryz.underlying24 rfl infoO8) rfl ⟨_, _, rfl, line_yes HP.out.1 (by rw [show ((k + 1 : Nat) : Int) = (k : Int) + 1 from by omega]; rfl) (by have h := HO7.out; simp only [neS] at h; rw [← bytes_neS, List.length_map] at h; exact h), below_setRowP HBL7.out (Nat.le_refl _) _⟩
        | n + 9, h, _, _, _ => omega
end Go.Proofs.YtnljpaohkkdjjaaGreatDoor
