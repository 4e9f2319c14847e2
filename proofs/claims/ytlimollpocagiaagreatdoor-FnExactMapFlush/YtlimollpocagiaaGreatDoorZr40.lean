/- The program's (*flush).out. -/
import Derived.Test.YtlimollpocagiaaGreatDoorZr38
import Derived.Test.YtlimollpocagiaaGreatDoorZr33
import Derived.Test.YtlimollpocagiaaGreatDoorZr39
namespace Go.Proofs.YtlimollpocagiaaGreatDoor
open List (getElem_toArray getElem_cons_zero getElem_cons_succ setIfInBounds_toArray set_cons_zero set_cons_succ)
set_option linter.unusedVariables false
set_option linter.unusedSimpArgs false
open Go.RowKit Go.Shelf
attribute [local go_sem] Oper.semAt_some

/-- What block k of the map holds. -/
def farW (m : Nat) (g : Nat → Int) : List Int := (List.range 128).map fun j => if 12 + j < m then g (12 + j) else 0
def dataF (m : Nat) (ws : List Int) (g : Nat → Int) (k : Nat) : List Int := if k < m then partW ws k else farW m g
def putF (m : Nat) (ws : List Int) (g : Nat → Int) (k : Nat) : Int × List Int := (g k, encW (dataF m ws g k))
def rootF (m n : Nat) (g : Nat → Int) : List Int := (4 * (n : Int)) :: (List.range 14).map fun j => if j < 12 then (if j < m then g j else 0) else if j = 12 then g m else 0
theorem dataF_len (m : Nat) (ws : List Int) (g : Nat → Int) (k : Nat) : (dataF m ws g k).length = 128 := by
  unfold dataF partW farW
  split <;> simp
theorem NwG.words {m : Nat} {g : Nat → Int} {Ls : Nat → List Int} (h : NwG m g Ls) : wordsN Ls 0 0 = farW m g := by
  unfold wordsN farW
  refine List.map_congr_left (fun j _ => ?_)
  have e : belR 0 0 j = 12 + j := by unfold belR; simp
  rw [e]
  by_cases hj : 12 + j < m
  · rw [if_pos hj, h.g0 _ hj]
  · rw [if_neg hj, List.getD, List.getElem?_eq_none (by have := h.l0; omega)]; rfl
theorem NwG.root {m n : Nat} {g : Nat → Int} {Ls : Nat → List Int} (h : NwG m g Ls) : rootC Ls (4 * n) 14 = cellsI (rootF m n g) := by
  unfold rootC rootF
  rw [show ((4 * n : Nat) : Int) = 4 * (n : Int) by omega]
  congr 1
  congr 1
  refine List.map_congr_left (fun j hj => ?_)
  have hj2 : j < 14 := List.mem_range.1 hj
  rw [if_pos hj2]
  unfold numAt topL topR
  by_cases h1 : j < 12
  · rw [if_pos h1, if_pos h1, if_pos h1]
    by_cases h2 : j < m
    · rw [if_pos h2, h.g0 _ h2]
    · rw [if_neg h2, List.getD, List.getElem?_eq_none (by have := h.l0; omega)]; rfl
  · rw [if_neg h1, if_neg h1, if_neg h1]
    by_cases h2 : j = 12
    · rw [if_pos h2, if_pos h2, h.g1]
    · rw [if_neg h2, if_neg h2, h.l2]; rfl
/-- Between two puts of out. -/
structure Iou (w : World) (ZM : Array Value) (bn : Nat) (C : Array Value) (sl : Nat → Value) (Ls : Nat → List Int) (P : List (Int × List Int)) (pv : Value) (vs : List Value) (W : World) : Prop where
  old : Below w.heap.size w W
  res : Blk W w.heap.size ZM 34
  now : NumS W (w.heap.size + 1) bn 0 C 106 sl Ls
  puts : OwnN W (w.heap.size + 1) 44 1 pv (P.map neP) vs
theorem Iou.below {w : World} {ZM : Array Value} {bn : Nat} {C : Array Value} {sl : Nat → Value} {Ls : Nat → List Int} {P : List (Int × List Int)} {pv : Value} {vs : List Value} {W W' : World} (h : Iou w ZM bn C sl Ls P pv vs W) (hb : Below W.heap.size W W') : Iou w ZM bn C sl Ls P pv vs W' :=
  ⟨h.old.trans (hb.mono h.old.size), h.res.below hb h.res.lt, h.now.below hb, h.puts.below hb⟩
theorem Iou.grew {w : World} {ZM : Array Value} {bn : Nat} {C : Array Value} {sl : Nat → Value} {Ls : Nat → List Int} {P P' : List (Int × List Int)} {pv pv' : Value} {vs vs' : List Value} {W W' : World} (h : Iou w ZM bn C sl Ls P pv vs W) (hg : W.grownBy W' pv.ownBlock) (ho : OwnN W' (w.heap.size + 1) 44 1 pv' (P'.map neP) vs') : Iou w ZM bn C sl Ls P' pv' vs' W' := by
  have y : KpY (fun t => t = 44) W W' := (KpY.refl _ _).ownrow h.puts.row rfl hg
  exact ⟨h.old.grown hg h.old.size (fun r e => by have := (h.puts.row.lt r e).1; omega), y.blk h.res (by decide), ⟨y.blk h.now.box (by decide), h.now.at_, fun l hl => y.own (h.now.row l hl) (by decide), h.now.apart⟩, ho⟩
theorem own_sameJ {W W' : World} {base n sz : Nat} {e : TypeId} {v : Value} {xs : List Value} (h : W.ownsRow base e sz v n xs) (hs : ∀ r, base ≤ r → W'.heap[r]? = W.heap[r]?) : W'.ownsRow base e sz v n xs :=
  own_kept h (fun k hk => hs k (h.lt k hk).1)
theorem OwnN.sameJ {W W' : World} {base : Nat} {e : TypeId} {m : Nat} {v : Value} {L : List NE} {vs : List Value} (h : OwnN W base e m v L vs) (hs : ∀ r, base ≤ r → W'.heap[r]? = W.heap[r]?) : OwnN W' base e m v L vs :=
  ⟨h.len, h.pre, own_sameJ h.row hs, fun i u l hu hl => own_sameJ (h.dat i u l hu hl) hs, h.one⟩
theorem OwnN.ltJ {W : World} {base : Nat} {e : TypeId} {m : Nat} {v : Value} {L : List NE} {vs : List Value} (h : OwnN W base e m v L vs) {i : Nat} {u : Value} {b : Nat} (hu : vs[i]? = some u) (hb : u.ownBlock = some b) : base ≤ b ∧ b < W.heap.size := by
  have hi : i < L.length := by rw [← h.len]; exact (List.getElem?_eq_some_iff.1 hu).1
  exact (h.dat i u L[i] hu (List.getElem?_eq_getElem hi)).lt b hb
theorem cells_newJ (w : World) (C : Array Value) (t : TypeId) : ∀ j u, C.toList[j]? = some u → (w.alloc (.cells C t)).cell? (Addr.add ⟨w.heap.size, 0, none⟩ j) = some u := by
  intro j u h
  rw [Addr.add_mid, Nat.zero_add, (Blk.new w C t).cell j]
  simpa using h
theorem infoPutJ : (Tryz.prog.info? 44).map (fun i => (i.zero, i.size, i.bytes)) = some (some (.agg #[.int .i64 0, .slice none 0 0]), 2, 32) := by kernel_rfl
theorem infoMO : (Tryz.prog.info? 34).map (·.size) = some 18 := by kernel_rfl
theorem run_loadBw {w : World} {g : Nat} {cs : Array Value} (h : Blk w g cs 127) {o : Oper} {a : Act} (x : Operand) (ho : o.op = .load 127 x) (hx : a.eval x = .pointer (some ⟨g, 0, none⟩)) (hi : (Tryz.prog.info? 127).map (·.size) = some cs.size) : (execOp a.eval o).run Tryz.prog w = .ok (.value (.agg cs)) w := by
  unfold execOp
  simp only [ho, hx, Instr.loadAt, Instr.sureAddr, Sem.run_bind, Sem.run_pure, Result.andThen_ok, run_loadVar_row w g 127 127 cs (0, 0) _ h Tryz.underlying127 rfl hi]
/-- What out answers. -/
def OuR (w w' : World) (m n : Nat) (R : Nat → Value) (s : FD) (g : Nat → Int) (e : Ending) : Prop := ∃ pv vs, e = .returned (.agg (((rootF m n g).map (Value.int .i64) ++ [R 1, .int .i64 (s.cu : Int), pv]).toArray)) ∧ OwnN w' w.heap.size 44 1 pv ((s.od.map (putF m s.ws g)).map neP) vs ∧ Below w.heap.size w w'
set_option maxRecDepth 100000 in
set_option maxHeartbeats 4000000 in
theorem out_any (base b m n : Nat) (bf ol : List Int) (R : Nat → Value) (vo : Value) (s : FD) (w : World) (h : FlD w base b m bf ol s R vo) (hwf : WfD m n s) (hm : m = (n + 127) / 128) (hn : n ≤ 2048) (hg : ErrT w) :
    Calls Tryz.prog 29 #[.pointer (some ⟨b, 0, none⟩)] w fun e w' => OuR w w' m n R s (nowF m ol s.pl s.od) e := by
  have hm16 : m ≤ 16 := by omega
  obtain ⟨gg, hgg⟩ : ∃ gg, gg = nowF m ol s.pl s.od := ⟨_, rfl⟩
  obtain ⟨Z, hZ, hAl⟩ := letBwZ
  have hZs : Z.size = 128 := by rw [hZ]; simp
  have HAl := hide hAl
  have HZs := hide hZs
  obtain ⟨ZM, hZM⟩ : ∃ ZM, ZM = (#[.int .i64 0, .int .i64 0, .int .i64 0, .int .i64 0, .int .i64 0, .int .i64 0, .int .i64 0, .int .i64 0, .int .i64 0, .int .i64 0, .int .i64 0, .int .i64 0, .int .i64 0, .int .i64 0, .int .i64 0, .slice none 0 0, .int .i64 0, .slice none 0 0] : Array Value) := ⟨_, rfl⟩
  have HZM := hide hZM
  obtain ⟨w1, hw1⟩ : ∃ w1, w1 = w.alloc (.cells ZM 34) := ⟨_, rfl⟩
  have hs1 : w1.heap.size = w.heap.size + 1 := by rw [hw1]; simp
  have bA : Below w.heap.size w w1 := by rw [hw1]; exact (Below.refl _ _).alloc (Nat.le_refl _) _
  have K1 := hide (show Blk w1 w.heap.size ZM 34 from by rw [hw1]; exact Blk.new _ _ _)
  have B1 := hide bA
  have HW1 := hide hw1
  have HS1 := hide hs1
  have H := hide (And.intro h (And.intro hwf (And.intro hm (And.intro hg hgg))))
  obtain ⟨i0, hi0, hz0, hz1, hz2⟩ := info_parts infoPutJ
  have HNum := hide (numbers_any base b m n bf ol R vo s w1 (h.below bA) hwf hm hn)
  rw [← hgg] at HNum ⊢
  clear h hwf hm hg hgg hZ hAl hZs hZM bA hw1 hs1
  go_enter Tryz.func29, Tryz.ntmps29
  go_upto_region 1 with fail
  rw [← HZM.out, ← HW1.out]
  go_upto_region 2 with (first
    | (go_at_call 68
       refine HNum.out.mono ?_
       rintro e w2 ⟨C, sl, Ls, rfl, c1, c2, c3, c4, c5, c6⟩
       have HN := hide (And.intro c1 (And.intro c2 (And.intro c3 (And.intro c4 (And.intro c5 c6)))))
       have HInC := hide (show (Tryz.prog.info? 106).map (·.size) = some C.size from by rw [c1]; kernel_rfl)
       have HOneC := hide (show C.all (·.oneCell') = true from by
          rw [Array.all_eq_true]
          intro i hi
          rw [c1] at hi
          have h1 := c2 i hi
          obtain ⟨x, y, e⟩ := own_shape (c3 i hi)
          have h2 : C[i] = sl i := by have := Array.getElem?_eq_getElem (xs := C) (i := i) (by omega); rw [this] at h1; exact Option.some.inj h1
          rw [h2, e]
          rfl)
       clear c1 c2 c3 c4 c5 c6)
    | (refine wpList_store_row rfl 106 _ _ rfl w2.heap.size C rfl rfl 106 #[.slice none 0 0, .slice none 0 0, .slice none 0 0] (Blk.new w2 _ _) HInC.out (by rw [HN.out.1]; rfl) HOneC.out ?_)
    | fail)
  obtain ⟨w3, hw3⟩ : ∃ w3, w3 = (w2.alloc (.cells #[.slice none 0 0, .slice none 0 0, .slice none 0 0] 106)).setRow w2.heap.size C := ⟨_, rfl⟩
  rw [← hw3]
  have b3 : Below w2.heap.size w2 w3 := by rw [hw3]; exact below_setRow ((Below.refl _ _).alloc (Nat.le_refl _) _) (Nat.le_refl _) _
  have b2 : Below w1.heap.size w1 w2 := HN.out.2.2.2.2.2
  have I3 := hide (show Iou w ZM w2.heap.size C sl Ls [] (.slice none 0 0) [] w3 from ⟨(B1.out.trans (b2.mono B1.out.size)).trans (b3.mono (Nat.le_trans B1.out.size b2.size)), (K1.out.below b2 K1.out.lt).below b3 (Nat.lt_of_lt_of_le K1.out.lt b2.size), ⟨by rw [hw3]; exact (Blk.new w2 _ _).row _, fun l hl => by rw [Nat.zero_add]; exact HN.out.2.1 l hl, fun l hl => by have := own_belowT (HN.out.2.2.1 l hl) b3; rw [HS1.out] at this; exact this, HN.out.2.2.2.1⟩, OwnN.nil _ _ _ _⟩)
  clear b3 b2 hw3
  obtain ⟨CF, LL, hF, hRel⟩ := H.out.1
  have HF := hide (And.intro hF hRel)
  obtain ⟨oa, oc, hov⟩ := own_shape HF.out.1.orow
  obtain ⟨no, hno⟩ : ∃ no, no = (s.od.map (posS m)).length := ⟨_, rfl⟩
  rw [← hno] at hov
  have hF3 := hF.below (show Below w.heap.size w w3 from I3.out.old)
  have c8 : w3.cell? ⟨b, 8, none⟩ = some (.slice oa no oc) := by rw [← hov]; exact (hF3.box.cell 8).trans hF3.ord
  have hno2 : no ≤ 17 := by rw [hno, List.length_map]; have := H.out.2.1.odlen; omega
  have HNO := hide (And.intro hno hov)
  clear hF hRel hno hov hF3
  go_upto_region 4 with fail
  clear c8
  go_wp2
  go_loopw [4, 15] (fun p i wr => ∃ (k : Nat) (vs : List Value), k ≤ no ∧ i = .int .i64 (k : Int) ∧ Hid (Iou w ZM w2.heap.size C sl Ls ((s.od.take k).map (putF m s.ws gg)) p vs wr)) (fun _ i _ => no - (intOf i).toNat)
  case atStart => exact ⟨0, [], Nat.zero_le _, rfl, hide (by simpa using I3.out)⟩
  case round =>
    obtain ⟨k, vs, hk, rfl, HO⟩ := hrel
    have hodl : s.od.length = no := by have := HNO.out.1; rw [List.length_map] at this; omega
    have HLt := hide (show (((s.od.take k).map (putF m s.ws gg)).map neP).length = k from by rw [List.length_map, List.length_map, List.length_take, hodl]; exact Nat.min_eq_left hk)
    obtain ⟨pa, pc, hpv⟩ : ∃ pa pc, u4 = Value.slice pa k pc := by
      obtain ⟨x, y, e⟩ := own_shape HO.out.puts.row
      rw [HLt.out] at e
      exact ⟨x, y, e⟩
    subst hpv
    by_cases hlt : k < no
    · obtain ⟨kk, hkk0⟩ : ∃ kk, s.od[k]? = some kk := ⟨_, List.getElem?_eq_getElem (by omega)⟩
      have hkk : kk < m + 1 := H.out.2.1.odlt kk (List.mem_of_getElem? hkk0)
      have HTk := hide (show (s.od.take (k + 1)).map (putF m s.ws gg) = (s.od.take k).map (putF m s.ws gg) ++ [putF m s.ws gg kk] from by rw [List.take_add_one, hkk0]; simp)
      obtain ⟨gq, gqc, hq1, hq2⟩ := (HF.out.1.below (show Below w.heap.size w wr from HO.out.old)).ordAt (k := k) (q := posS m kk) (by rw [List.getElem?_map, hkk0]; rfl)
      rw [HNO.out.2, ← HNO.out.1] at hq1
      injection hq1 with q1 q2 q3
      subst q1
      subst q3
      have hltI : (k : Int) < (no : Int) := by omega
      clear q2 hkk0 hodl
      by_cases hkm : kk < m
      · have e : posS m kk = (0, kk) := by unfold posS; rw [if_pos hkm]
        rw [e] at hq2
        have HQ := hide hq2
        have HMs := hide (show dataF m s.ws gg kk = partW s.ws kk from by unfold dataF; rw [if_pos hkm])
        have HKK := hide (And.intro hkk hkm)
        clear e hq2 hkk hkm hlt
        go_upto_region 8 with (first
          | (refine wpList_load_mid rfl 123 _ rfl gq (k * 2) rfl [.int .i64 0, .int .i64 (kk : Int)] _ HQ.out Tryz.underlying123 rfl infoSp ?_)
          | (refine Great.wpList_allocTo rfl (some 7) rfl (.pointer (some ⟨wr.heap.size + 1, 0, none⟩)) (.cells Z 127) (by have e := HAl.out; rw [show wr.heap.size + 1 = (wr.alloc (.cells #[.int .i64 0, .int .i64 (kk : Int)] 123)).heap.size by simp]; exact e _ _ _ rfl) ?_)
          | fail)
        obtain ⟨w3, hw3⟩ : ∃ w3, w3 = (wr.alloc (.cells #[.int .i64 0, .int .i64 (kk : Int)] 123)).alloc (.cells Z 127) := ⟨_, rfl⟩
        rw [← hw3]
        have B3 := hide (show Below wr.heap.size wr w3 from by rw [hw3]; exact ((Below.refl _ _).alloc (Nat.le_refl _) _).alloc (by simp) _)
        have KS := hide (show Blk w3 wr.heap.size #[.int .i64 0, .int .i64 (kk : Int)] 123 from by rw [hw3]; exact (Blk.new _ _ _).alloc _)
        have KZ := hide (show Blk w3 (wr.heap.size + 1) Z 127 from by rw [hw3]; have h := Blk.new (wr.alloc (.cells #[.int .i64 0, .int .i64 (kk : Int)] 123)) Z 127; rw [World.size_alloc] at h; exact h)
        have I3 := hide (HO.out.below B3.out)
        clear hw3
        obtain ⟨A, hA⟩ : ∃ A, A = ((dataF m s.ws gg kk).map (Value.int .i64)).toArray := ⟨_, rfl⟩
        have HA := hide hA
        have HAs := hide (show A.size = 128 from by rw [hA]; simp [dataF_len])
        have HInA := hide (show (Tryz.prog.info? 127).map (·.size) = some A.size from by rw [HAs.out]; exact infoBw)
        have HOA := hide (show A.all (·.oneCell') = true from by rw [hA]; exact i64_one _)
        clear hA
        have HAt := hide (show ∀ W, NumS W (w.heap.size + 1) w2.heap.size 0 C 106 sl Ls → Calls Tryz.prog 71 #[.pointer (some ⟨w2.heap.size, 0, none⟩), .agg #[.int .i64 0, .int .i64 (kk : Int)]] W fun e w' => e = .returned (.int .i64 (gg kk)) ∧ Below W.heap.size W w' from fun W hN => by
          have h := atS_any w2.heap.size 0 0 kk C 106 sl Ls (w.heap.size + 1) W hN (by omega) (by have := HKK.out.1; omega)
          rw [HN.out.2.2.2.2.1.g0 kk HKK.out.2] at h
          exact h)
        have hF3 := HF.out.1.below (show Below w.heap.size w w3 from I3.out.old)
        obtain ⟨a1, e1c, hR1, hC1, hr1⟩ := hF3.rd 1 (by omega)
        have hwn : (LL 1).length = n := by rw [HF.out.2.ws]; exact H.out.2.1.wl
        rw [hwn] at hR1 hC1 hr1
        have c1 : w3.cell? ⟨b, 1, none⟩ = some (.slice a1 n e1c) := (hF3.box.cell 1).trans hC1
        have HR1 := hide (show Rd .i64 w3 (.slice a1 n e1c) s.ws from by rw [← HF.out.2.ws]; exact hr1)
        have C1 := hide hF3.box
        have HC1 := hide hC1
        clear hF3 hC1 hr1 hwn c1 hR1
        refine wp_region_noPanic ?_
        refine wp_region_held_drew (S := fun w' => Blk w' wr.heap.size #[.int .i64 0, .int .i64 (kk : Int)] 123 ∧ Blk w' b CF 113) (by kernel_rfl) ⟨KS.out, C1.out⟩ (fun hH => ?_)
        refine wpAnyH_take (i := 0) (oi := _) (v := .pointer (some ⟨b, 0, none⟩)) rfl (by kernel_rfl) (by kernel_rfl) (by kernel_rfl) (fun _ _ _ h => h) (Or.inl ⟨by rfl, fun w' hw' => by go_simp⟩) hH ?_
        try simp only [Act.put, getElem_toArray, getElem_cons_zero, getElem_cons_succ, setIfInBounds_toArray, set_cons_zero, set_cons_succ]
        refine wpAnyH_take (i := 1) (oi := _) (v := .pointer (some ⟨b, 0, none⟩)) rfl (by kernel_rfl) (by kernel_rfl) (by kernel_rfl) (fun _ _ _ h => h) (Or.inl ⟨by rfl, fun w' hw' => by go_simp⟩) hH ?_
        try simp only [Act.put, getElem_toArray, getElem_cons_zero, getElem_cons_succ, setIfInBounds_toArray, set_cons_zero, set_cons_succ]
        refine wpAnyH_take (i := 2) (oi := _) (v := .pointer (some ⟨b, 1, none⟩)) rfl (by kernel_rfl) (by kernel_rfl) (by kernel_rfl) (fun _ _ _ h => h) (Or.inl ⟨by rfl, fun w' hw' => by go_simp⟩) hH ?_
        try simp only [Act.put, getElem_toArray, getElem_cons_zero, getElem_cons_succ, setIfInBounds_toArray, set_cons_zero, set_cons_succ]
        refine wpAnyH_take (i := 3) (oi := _) (v := .slice a1 n e1c) rfl (by kernel_rfl) (by kernel_rfl) (by kernel_rfl) (fun _ _ _ h => h) (Or.inl ⟨by rfl, fun w' hw' => by have hc := (Blk.cell hw'.2 1).trans HC1.out; clear hw'; go_simp⟩) hH ?_
        try simp only [Act.put, getElem_toArray, getElem_cons_zero, getElem_cons_succ, setIfInBounds_toArray, set_cons_zero, set_cons_succ]
        refine wpAnyH_take (i := 4) (oi := _) (v := .pointer (some ⟨wr.heap.size, 1, none⟩)) rfl (by kernel_rfl) (by kernel_rfl) (by kernel_rfl) (fun _ _ _ h => h) (Or.inl ⟨by rfl, fun w' hw' => by go_simp⟩) hH ?_
        try simp only [Act.put, getElem_toArray, getElem_cons_zero, getElem_cons_succ, setIfInBounds_toArray, set_cons_zero, set_cons_succ]
        refine wpAnyH_take (i := 5) (oi := _) (v := .int .i64 (kk : Int)) rfl (by kernel_rfl) (by kernel_rfl) (by kernel_rfl) (fun _ _ _ h => h) (Or.inl ⟨by rfl, fun w' hw' => by have hc := (Blk.cell hw'.1 1).trans (show _ = some (Value.int .i64 (kk : Int)) from rfl); clear hw'; go_simp⟩) hH ?_
        try simp only [Act.put, getElem_toArray, getElem_cons_zero, getElem_cons_succ, setIfInBounds_toArray, set_cons_zero, set_cons_succ]
        refine wpAnyH_ready (rs := [6]) (by kernel_rfl) (by simp) ?_
        refine AllReadyH.cons (o := _) rfl ?_ AllReadyH.nil
        intro K hK
        go_simp
        have hcall := partOf_any a1 n e1c kk s.ws w3.drew (HR1.out.below (show Below w3.heap.size w3 w3.drew from (Below.refl _ _).drew)) H.out.2.1.wl.symm (by have := H.out.2.2.1; have := HKK.out.2; omega) hn
        rw [← HMs.out, ← HA.out] at hcall
        refine hcall.mono ?_
        rintro e w4 ⟨rfl, b4⟩
        have b34 : Below w3.heap.size w3 w4 := ((Below.refl _ _).drew).trans b4
        have B4 := hide (show Below wr.heap.size wr w4 from B3.out.trans (b34.mono B3.out.size))
        have KS4 := hide (KS.out.below b34 KS.out.lt)
        have KZ4 := hide (KZ.out.below b34 KZ.out.lt)
        have C4 := hide (C1.out.below b34 C1.out.lt)
        clear b4 b34 hcall
        refine hK.out _ _ ⟨KS4.out, C4.out⟩ (fun hH => ?_)
        clear hK K
        try simp only [Act.put, getElem_toArray, getElem_cons_zero, getElem_cons_succ, setIfInBounds_toArray, set_cons_zero, set_cons_succ]
        refine wpAnyH_ready (rs := [7]) (by kernel_rfl) (by simp) ?_
        refine AllReadyH.cons (o := _) rfl ?_ AllReadyH.nil
        intro K hK
        rw [if_pos (by rfl)]
        refine wp_store_row 127 _ _ rfl (wr.heap.size + 1) A rfl rfl 127 Z KZ4.out HInA.out (by rw [HZs.out, HAs.out]) HOA.out ?_
        have hne : b ≠ wr.heap.size + 1 := fun e => by
          have h1 := (HF.out.1.below (show Below w.heap.size w wr from HO.out.old)).box.lt
          omega
        refine hK.out _ _ ⟨(setRow_other w4 (wr.heap.size + 1) wr.heap.size A (by omega)).trans KS4.out, (setRow_other w4 (wr.heap.size + 1) b A hne).trans C4.out⟩ (fun hH => ?_)
        clear hK K hne
        try simp only [Act.put, getElem_toArray, getElem_cons_zero, getElem_cons_succ, setIfInBounds_toArray, set_cons_zero, set_cons_succ]
        refine wpAnyH_done (by kernel_rfl) (NoPanic.normal ?_) _
        clear hH
        obtain ⟨w5, hw5⟩ : ∃ w5, w5 = w4.setRow (wr.heap.size + 1) A := ⟨_, rfl⟩
        rw [← hw5]
        have HW5 := hide hw5
        clear hw5
        have B5 := hide (show Below wr.heap.size wr w5 from by rw [HW5.out]; exact below_setRow B4.out (by omega) _)
        have KA5 := hide (show Blk w5 (wr.heap.size + 1) A 127 from by rw [HW5.out]; exact KZ4.out.row _)
        have KS5 := hide (show Blk w5 wr.heap.size #[.int .i64 0, .int .i64 (kk : Int)] 123 from by rw [HW5.out]; exact (setRow_other w4 (wr.heap.size + 1) wr.heap.size A (by omega)).trans KS4.out)
        have I5 := hide (HO.out.below B5.out)
        go_upto_region 10 with fail
        have E5 := hide ((H.out.2.2.2.1.below (show Below w.heap.size w w5 from I5.out.old)))
        refine wp_region_noPanic ?_
        refine wp_region_held_drew (S := fun w' => Blk w' wr.heap.size #[.int .i64 0, .int .i64 (kk : Int)] 123 ∧ Blk w' (wr.heap.size + 1) A 127) (by kernel_rfl) ⟨KS5.out, KA5.out⟩ (fun hH => ?_)
        refine wpAnyH_take (i := 0) (oi := _) (v := .slice pa k pc) rfl (by kernel_rfl) (by kernel_rfl) (by kernel_rfl) (fun _ _ _ h => h) (Or.inl ⟨by rfl, fun w' hw' => by go_simp⟩) hH ?_
        try simp only [Act.put, getElem_toArray, getElem_cons_zero, getElem_cons_succ, setIfInBounds_toArray, set_cons_zero, set_cons_succ]
        refine wpAnyH_take (i := 1) (oi := _) (v := .agg #[.int .i64 0, .int .i64 (kk : Int)]) rfl (by kernel_rfl) (by kernel_rfl) (by kernel_rfl) (fun _ _ _ h => h) (yieldsIf_load_mid (by rfl) 123 _ rfl wr.heap.size 0 rfl [.int .i64 0, .int .i64 (kk : Int)] _ (fun w' h => blk_twoY h.1) Tryz.underlying123 rfl infoSp) hH ?_
        try simp only [Act.put, getElem_toArray, getElem_cons_zero, getElem_cons_succ, setIfInBounds_toArray, set_cons_zero, set_cons_succ]
        refine wpAnyH_take (i := 3) (oi := _) (v := .agg A) rfl (by kernel_rfl) (by kernel_rfl) (by kernel_rfl) (fun _ _ _ h => h) (Or.inl ⟨by rfl, fun w' hw' => run_loadBw hw'.2 _ rfl rfl HInA.out⟩) hH ?_
        try simp only [Act.put, getElem_toArray, getElem_cons_zero, getElem_cons_succ, setIfInBounds_toArray, set_cons_zero, set_cons_succ]
        refine wpAnyH_ready (rs := [2]) (by kernel_rfl) (by simp) ?_
        refine AllReadyH.cons (o := _) rfl ?_ AllReadyH.nil
        intro K hK
        go_simp
        refine (HAt.out _ ((I5.out.now.below (show Below w5.heap.size w5 w5.drew from (Below.refl _ _).drew)))).mono ?_
        rintro e w6 ⟨rfl, b6⟩
        have B6 := hide (show Below w5.heap.size w5 w6 from ((Below.refl _ _).drew).trans b6)
        have KS6 := hide (KS5.out.below B6.out KS5.out.lt)
        have KA6 := hide (KA5.out.below B6.out KA5.out.lt)
        clear b6
        refine hK.out _ _ ⟨KS6.out, KA6.out⟩ (fun hH => ?_)
        clear hK K
        try simp only [Act.put, getElem_toArray, getElem_cons_zero, getElem_cons_succ, setIfInBounds_toArray, set_cons_zero, set_cons_succ]
        refine wpAnyH_ready (rs := [4]) (by kernel_rfl) (by simp) ?_
        refine AllReadyH.cons (o := _) rfl ?_ AllReadyH.nil
        intro K hK
        go_simp
        have hcall := layW_any (dataF m s.ws gg kk) w6 (dataF_len _ _ _ _) (E5.out.below B6.out)
        rw [← HA.out] at hcall
        refine hcall.mono ?_
        rintro e w7 ⟨v7, rfl, o7, b7⟩
        obtain ⟨da, dc, rfl⟩ := own_shape o7
        have B7 := hide (show Below w5.heap.size w5 w7 from B6.out.trans (b7.mono B6.out.size))
        have KS7 := hide (KS6.out.below b7 KS6.out.lt)
        have KA7 := hide (KA6.out.below b7 KA6.out.lt)
        have O7 := hide (And.intro o7 B6.out.size)
        clear b7 o7 hcall
        refine hK.out _ _ ⟨KS7.out, KA7.out⟩ (fun hH => ?_)
        clear hK K
        try simp only [Act.put, getElem_toArray, getElem_cons_zero, getElem_cons_succ, setIfInBounds_toArray, set_cons_zero, set_cons_succ]
        obtain ⟨el, hel⟩ : ∃ el, el = (encW (dataF m s.ws gg kk)).length := ⟨_, rfl⟩
        rw [← hel]
        have HEl := hide hel
        clear hel
        refine wpAnyH_take (i := 5) (oi := _) (v := .agg #[.int .i64 (gg kk), .slice da el dc]) rfl (by kernel_rfl) (by kernel_rfl) (by kernel_rfl) (fun _ _ _ h => h) (Or.inl ⟨by rfl, fun w' hw' => by go_simp⟩) hH ?_
        try simp only [Act.put, getElem_toArray, getElem_cons_zero, getElem_cons_succ, setIfInBounds_toArray, set_cons_zero, set_cons_succ]
        refine wpAnyH_ready (rs := [6]) (by kernel_rfl) (by simp) ?_
        refine AllReadyH.cons (o := _) rfl ?_ AllReadyH.nil
        intro K hK
        go_simp
        refine hK.out _ _ ⟨KS7.out.alloc _, KA7.out.alloc _⟩ (fun hH => ?_)
        clear hK K
        try simp only [Act.put, getElem_toArray, getElem_cons_zero, getElem_cons_succ, setIfInBounds_toArray, set_cons_zero, set_cons_succ]
        have I7 := hide ((I5.out.below B7.out).below (show Below w7.heap.size w7 (w7.alloc (.cells #[.int .i64 (gg kk), .slice da el dc] 44)) from (Below.refl _ _).alloc (Nat.le_refl _) _))
        have R7 := hide I7.out.puts.row
        rw [HLt.out] at R7
        have hsz7 : w.heap.size + 1 ≤ w7.heap.size := by have h1 := I5.out.res.lt; have h2 := B7.out.size; omega
        refine wpAnyH_ready (rs := [7]) (by kernel_rfl) (by simp) ?_
        refine AllReadyH.cons (o := _) rfl ?_ AllReadyH.nil
        intro K hK
        rw [if_pos (by rfl)]
        refine wp_append_own _ (.tmp 31) (.tmp 37) 32 rfl (w.heap.size + 1) 44 i0 (.agg #[.int .i64 0, .slice none 0 0]) 2 32 Tryz.underlying32 hi0 hz0 hz1 hz2 rfl (by decide) (.slice pa k pc) k _ rfl R7.out ⟨w7.heap.size, 0, none⟩ 1 1 [.int .i64 (gg kk), .slice da el dc] rfl rfl (cells_newJ w7 #[.int .i64 (gg kk), .slice da el dc] 44) (by intro y hy; simp at hy; rcases hy with rfl | rfl <;> rfl) (by unfold maxLen; omega) (by omega) (by simp; omega) ?_
        intro v8 w8 o8 g8 _
        have I8 := hide (show Iou w ZM w2.heap.size C sl Ls ((s.od.take (k + 1)).map (putF m s.ws gg)) v8 (vs ++ [.slice da el dc]) w8 from by
          refine I7.out.grew g8 ?_
          rw [HTk.out, List.map_append]
          show OwnN _ _ _ _ _ (_ ++ [neP (putF m s.ws gg kk)]) _
          refine I7.out.puts.push (by decide) (neP (putF m s.ws gg kk)) (.slice da el dc) rfl ?_ (fun i x q hx hq e => ?_) (by rw [HLt.out]; exact o8) g8
          · have h1 := own_below O7.out.1 (show Below w7.heap.size w7 (w7.alloc (.cells #[.int .i64 (gg kk), .slice da el dc] 44)) from (Below.refl _ _).alloc (Nat.le_refl _) _)
            rw [← HEl.out] at h1
            have h2 := own_mono h1 (show w.heap.size + 1 ≤ w6.heap.size from by have h1 := I5.out.res.lt; have h2 := O7.out.2; omega)
            have h3 : (putF m s.ws gg kk).2.length = el := by unfold putF; exact HEl.out.symm
            show World.ownsRow _ _ _ _ _ (putF m s.ws gg kk).2.length _
            rw [h3]
            exact h2
          · have h1 := (O7.out.1.lt q (by rw [← HEl.out]; exact e)).1
            have h2 := (I5.out.puts.ltJ hx hq).2
            have h3 := O7.out.2
            omega)
        have y8 : KpY (fun t => t = 44) (w7.alloc (.cells #[.int .i64 (gg kk), .slice da el dc] 44)) w8 := (KpY.refl _ _).ownrow R7.out rfl g8
        have KS8 := hide (y8.blk (KS7.out.alloc _) (by decide))
        have KA8 := hide (y8.blk (KA7.out.alloc _) (by decide))
        clear o8 g8 y8
        refine hK.out _ _ ⟨KS8.out, KA8.out⟩ (fun hH => ?_)
        clear hK K
        try simp only [Act.put, getElem_toArray, getElem_cons_zero, getElem_cons_succ, setIfInBounds_toArray, set_cons_zero, set_cons_succ]
        refine wpAnyH_take (i := 8) (oi := _) (v := v8) rfl (by kernel_rfl) (by kernel_rfl) (by kernel_rfl) (fun _ _ _ h => h) (Or.inl ⟨by rfl, fun w' hw' => by go_simp⟩) hH ?_
        try simp only [Act.put, getElem_toArray, getElem_cons_zero, getElem_cons_succ, setIfInBounds_toArray, set_cons_zero, set_cons_succ]
        refine wpAnyH_done (by kernel_rfl) (NoPanic.normal ?_) _
        clear hH
        go_wp2
        go_roundw
        case rel => exact ⟨k + 1, _, by omega, by go_num, I8⟩
        case measure => simp [intOf]; omega
      · obtain rfl : kk = m := by omega
        have e : posS kk kk = (1, 0) := by unfold posS; rw [if_neg hkm]
        rw [e] at hq2
        have HQ := hide hq2
        have HMs := hide (show dataF kk s.ws gg kk = wordsN Ls 0 0 from by rw [HN.out.2.2.2.2.1.words]; unfold dataF; rw [if_neg hkm])
        clear e hq2 hkk hkm hlt
        go_upto_region 9 with (first
          | (refine wpList_load_mid rfl 123 _ rfl gq (k * 2) rfl [.int .i64 1, .int .i64 0] _ HQ.out Tryz.underlying123 rfl infoSp ?_)
          | (refine Great.wpList_allocTo rfl (some 7) rfl (.pointer (some ⟨wr.heap.size + 1, 0, none⟩)) (.cells Z 127) (by have e := HAl.out; rw [show wr.heap.size + 1 = (wr.alloc (.cells #[.int .i64 1, .int .i64 0] 123)).heap.size by simp]; exact e _ _ _ rfl) ?_)
          | fail)
        obtain ⟨w3, hw3⟩ : ∃ w3, w3 = (wr.alloc (.cells #[.int .i64 1, .int .i64 0] 123)).alloc (.cells Z 127) := ⟨_, rfl⟩
        rw [← hw3]
        have B3 := hide (show Below wr.heap.size wr w3 from by rw [hw3]; exact ((Below.refl _ _).alloc (Nat.le_refl _) _).alloc (by simp) _)
        have KS := hide (show Blk w3 wr.heap.size #[.int .i64 1, .int .i64 0] 123 from by rw [hw3]; exact (Blk.new _ _ _).alloc _)
        have KZ := hide (show Blk w3 (wr.heap.size + 1) Z 127 from by rw [hw3]; have h := Blk.new (wr.alloc (.cells #[.int .i64 1, .int .i64 0] 123)) Z 127; rw [World.size_alloc] at h; exact h)
        have I3 := hide (HO.out.below B3.out)
        clear hw3
        obtain ⟨A, hA⟩ : ∃ A, A = ((dataF kk s.ws gg kk).map (Value.int .i64)).toArray := ⟨_, rfl⟩
        have HA := hide hA
        have HAs := hide (show A.size = 128 from by rw [hA]; simp [dataF_len])
        have HInA := hide (show (Tryz.prog.info? 127).map (·.size) = some A.size from by rw [HAs.out]; exact infoBw)
        have HOA := hide (show A.all (·.oneCell') = true from by rw [hA]; exact i64_one _)
        clear hA
        have HAt := hide (show ∀ W, NumS W (w.heap.size + 1) w2.heap.size 0 C 106 sl Ls → Calls Tryz.prog 71 #[.pointer (some ⟨w2.heap.size, 0, none⟩), .agg #[.int .i64 1, .int .i64 0]] W fun e w' => e = .returned (.int .i64 (gg kk)) ∧ Below W.heap.size W w' from fun W hN => by
          have h := atS_any w2.heap.size 0 1 0 C 106 sl Ls (w.heap.size + 1) W hN (by omega) (by omega)
          rw [HN.out.2.2.2.2.1.g1] at h
          exact h)
        have HBe := hide (show ∀ W, NumS W (w.heap.size + 1) w2.heap.size 0 C 106 sl Ls → Calls Tryz.prog 70 #[.pointer (some ⟨w2.heap.size, 0, none⟩), .agg #[.int .i64 1, .int .i64 0]] W fun e w' => e = .returned (.agg A) ∧ Below W.heap.size W w' from fun W hN => by
          have h := belowN_any w2.heap.size 0 0 0 C 106 sl Ls (w.heap.size + 1) W hN (by omega) (by omega)
          rw [← HMs.out, ← HA.out] at h
          exact h)
        go_upto_region 10 with (first
          | (refine wpList_load_mid rfl 123 _ rfl wr.heap.size 0 rfl [.int .i64 1, .int .i64 0] _ (blk_twoY KS.out) Tryz.underlying123 rfl infoSp ?_)
          | (go_at_call 70
             refine (HBe.out _ I3.out.now).mono ?_
             rintro e w4 ⟨rfl, b4⟩
             have B4 := hide (show Below wr.heap.size wr w4 from B3.out.trans (b4.mono B3.out.size))
             have KS4 := hide (KS.out.below b4 KS.out.lt)
             have KZ4 := hide (KZ.out.below b4 KZ.out.lt)
             clear b4)
          | (refine wpList_store_row rfl 127 _ _ rfl (wr.heap.size + 1) A rfl rfl 127 Z KZ4.out HInA.out (by rw [HZs.out, HAs.out]) HOA.out ?_)
          | fail)
        obtain ⟨w5, hw5⟩ : ∃ w5, w5 = w4.setRow (wr.heap.size + 1) A := ⟨_, rfl⟩
        rw [← hw5]
        have HW5 := hide hw5
        clear hw5
        have B5 := hide (show Below wr.heap.size wr w5 from by rw [HW5.out]; exact below_setRow B4.out (by omega) _)
        have KA5 := hide (show Blk w5 (wr.heap.size + 1) A 127 from by rw [HW5.out]; exact KZ4.out.row _)
        have KS5 := hide (show Blk w5 wr.heap.size #[.int .i64 1, .int .i64 0] 123 from by rw [HW5.out]; exact (setRow_other w4 (wr.heap.size + 1) wr.heap.size A (by omega)).trans KS4.out)
        have I5 := hide (HO.out.below B5.out)
        have E5 := hide ((H.out.2.2.2.1.below (show Below w.heap.size w w5 from I5.out.old)))
        refine wp_region_noPanic ?_
        refine wp_region_held_drew (S := fun w' => Blk w' wr.heap.size #[.int .i64 1, .int .i64 0] 123 ∧ Blk w' (wr.heap.size + 1) A 127) (by kernel_rfl) ⟨KS5.out, KA5.out⟩ (fun hH => ?_)
        refine wpAnyH_take (i := 0) (oi := _) (v := .slice pa k pc) rfl (by kernel_rfl) (by kernel_rfl) (by kernel_rfl) (fun _ _ _ h => h) (Or.inl ⟨by rfl, fun w' hw' => by go_simp⟩) hH ?_
        try simp only [Act.put, getElem_toArray, getElem_cons_zero, getElem_cons_succ, setIfInBounds_toArray, set_cons_zero, set_cons_succ]
        refine wpAnyH_take (i := 1) (oi := _) (v := .agg #[.int .i64 1, .int .i64 0]) rfl (by kernel_rfl) (by kernel_rfl) (by kernel_rfl) (fun _ _ _ h => h) (yieldsIf_load_mid (by rfl) 123 _ rfl wr.heap.size 0 rfl [.int .i64 1, .int .i64 0] _ (fun w' h => blk_twoY h.1) Tryz.underlying123 rfl infoSp) hH ?_
        try simp only [Act.put, getElem_toArray, getElem_cons_zero, getElem_cons_succ, setIfInBounds_toArray, set_cons_zero, set_cons_succ]
        refine wpAnyH_take (i := 3) (oi := _) (v := .agg A) rfl (by kernel_rfl) (by kernel_rfl) (by kernel_rfl) (fun _ _ _ h => h) (Or.inl ⟨by rfl, fun w' hw' => run_loadBw hw'.2 _ rfl rfl HInA.out⟩) hH ?_
        try simp only [Act.put, getElem_toArray, getElem_cons_zero, getElem_cons_succ, setIfInBounds_toArray, set_cons_zero, set_cons_succ]
        refine wpAnyH_ready (rs := [2]) (by kernel_rfl) (by simp) ?_
        refine AllReadyH.cons (o := _) rfl ?_ AllReadyH.nil
        intro K hK
        go_simp
        refine (HAt.out _ ((I5.out.now.below (show Below w5.heap.size w5 w5.drew from (Below.refl _ _).drew)))).mono ?_
        rintro e w6 ⟨rfl, b6⟩
        have B6 := hide (show Below w5.heap.size w5 w6 from ((Below.refl _ _).drew).trans b6)
        have KS6 := hide (KS5.out.below B6.out KS5.out.lt)
        have KA6 := hide (KA5.out.below B6.out KA5.out.lt)
        clear b6
        refine hK.out _ _ ⟨KS6.out, KA6.out⟩ (fun hH => ?_)
        clear hK K
        try simp only [Act.put, getElem_toArray, getElem_cons_zero, getElem_cons_succ, setIfInBounds_toArray, set_cons_zero, set_cons_succ]
        refine wpAnyH_ready (rs := [4]) (by kernel_rfl) (by simp) ?_
        refine AllReadyH.cons (o := _) rfl ?_ AllReadyH.nil
        intro K hK
        go_simp
        have hcall := layW_any (dataF kk s.ws gg kk) w6 (dataF_len _ _ _ _) (E5.out.below B6.out)
        rw [← HA.out] at hcall
        refine hcall.mono ?_
        rintro e w7 ⟨v7, rfl, o7, b7⟩
        obtain ⟨da, dc, rfl⟩ := own_shape o7
        have B7 := hide (show Below w5.heap.size w5 w7 from B6.out.trans (b7.mono B6.out.size))
        have KS7 := hide (KS6.out.below b7 KS6.out.lt)
        have KA7 := hide (KA6.out.below b7 KA6.out.lt)
        have O7 := hide (And.intro o7 B6.out.size)
        clear b7 o7 hcall
        refine hK.out _ _ ⟨KS7.out, KA7.out⟩ (fun hH => ?_)
        clear hK K
        try simp only [Act.put, getElem_toArray, getElem_cons_zero, getElem_cons_succ, setIfInBounds_toArray, set_cons_zero, set_cons_succ]
        obtain ⟨el, hel⟩ : ∃ el, el = (encW (dataF kk s.ws gg kk)).length := ⟨_, rfl⟩
        rw [← hel]
        have HEl := hide hel
        clear hel
        refine wpAnyH_take (i := 5) (oi := _) (v := .agg #[.int .i64 (gg kk), .slice da el dc]) rfl (by kernel_rfl) (by kernel_rfl) (by kernel_rfl) (fun _ _ _ h => h) (Or.inl ⟨by rfl, fun w' hw' => by go_simp⟩) hH ?_
        try simp only [Act.put, getElem_toArray, getElem_cons_zero, getElem_cons_succ, setIfInBounds_toArray, set_cons_zero, set_cons_succ]
        refine wpAnyH_ready (rs := [6]) (by kernel_rfl) (by simp) ?_
        refine AllReadyH.cons (o := _) rfl ?_ AllReadyH.nil
        intro K hK
        go_simp
        refine hK.out _ _ ⟨KS7.out.alloc _, KA7.out.alloc _⟩ (fun hH => ?_)
        clear hK K
        try simp only [Act.put, getElem_toArray, getElem_cons_zero, getElem_cons_succ, setIfInBounds_toArray, set_cons_zero, set_cons_succ]
        have I7 := hide ((I5.out.below B7.out).below (show Below w7.heap.size w7 (w7.alloc (.cells #[.int .i64 (gg kk), .slice da el dc] 44)) from (Below.refl _ _).alloc (Nat.le_refl _) _))
        have R7 := hide I7.out.puts.row
        rw [HLt.out] at R7
        have hsz7 : w.heap.size + 1 ≤ w7.heap.size := by have h1 := I5.out.res.lt; have h2 := B7.out.size; omega
        refine wpAnyH_ready (rs := [7]) (by kernel_rfl) (by simp) ?_
        refine AllReadyH.cons (o := _) rfl ?_ AllReadyH.nil
        intro K hK
        rw [if_pos (by rfl)]
        refine wp_append_own _ (.tmp 31) (.tmp 37) 32 rfl (w.heap.size + 1) 44 i0 (.agg #[.int .i64 0, .slice none 0 0]) 2 32 Tryz.underlying32 hi0 hz0 hz1 hz2 rfl (by decide) (.slice pa k pc) k _ rfl R7.out ⟨w7.heap.size, 0, none⟩ 1 1 [.int .i64 (gg kk), .slice da el dc] rfl rfl (cells_newJ w7 #[.int .i64 (gg kk), .slice da el dc] 44) (by intro y hy; simp at hy; rcases hy with rfl | rfl <;> rfl) (by unfold maxLen; omega) (by omega) (by simp; omega) ?_
        intro v8 w8 o8 g8 _
        have I8 := hide (show Iou w ZM w2.heap.size C sl Ls ((s.od.take (k + 1)).map (putF kk s.ws gg)) v8 (vs ++ [.slice da el dc]) w8 from by
          refine I7.out.grew g8 ?_
          rw [HTk.out, List.map_append]
          show OwnN _ _ _ _ _ (_ ++ [neP (putF kk s.ws gg kk)]) _
          refine I7.out.puts.push (by decide) (neP (putF kk s.ws gg kk)) (.slice da el dc) rfl ?_ (fun i x q hx hq e => ?_) (by rw [HLt.out]; exact o8) g8
          · have h1 := own_below O7.out.1 (show Below w7.heap.size w7 (w7.alloc (.cells #[.int .i64 (gg kk), .slice da el dc] 44)) from (Below.refl _ _).alloc (Nat.le_refl _) _)
            rw [← HEl.out] at h1
            have h2 := own_mono h1 (show w.heap.size + 1 ≤ w6.heap.size from by have h1 := I5.out.res.lt; have h2 := O7.out.2; omega)
            have h3 : (putF kk s.ws gg kk).2.length = el := by unfold putF; exact HEl.out.symm
            show World.ownsRow _ _ _ _ _ (putF kk s.ws gg kk).2.length _
            rw [h3]
            exact h2
          · have h1 := (O7.out.1.lt q (by rw [← HEl.out]; exact e)).1
            have h2 := (I5.out.puts.ltJ hx hq).2
            have h3 := O7.out.2
            omega)
        have y8 : KpY (fun t => t = 44) (w7.alloc (.cells #[.int .i64 (gg kk), .slice da el dc] 44)) w8 := (KpY.refl _ _).ownrow R7.out rfl g8
        have KS8 := hide (y8.blk (KS7.out.alloc _) (by decide))
        have KA8 := hide (y8.blk (KA7.out.alloc _) (by decide))
        clear o8 g8 y8
        refine hK.out _ _ ⟨KS8.out, KA8.out⟩ (fun hH => ?_)
        clear hK K
        try simp only [Act.put, getElem_toArray, getElem_cons_zero, getElem_cons_succ, setIfInBounds_toArray, set_cons_zero, set_cons_succ]
        refine wpAnyH_take (i := 8) (oi := _) (v := v8) rfl (by kernel_rfl) (by kernel_rfl) (by kernel_rfl) (fun _ _ _ h => h) (Or.inl ⟨by rfl, fun w' hw' => by go_simp⟩) hH ?_
        try simp only [Act.put, getElem_toArray, getElem_cons_zero, getElem_cons_succ, setIfInBounds_toArray, set_cons_zero, set_cons_succ]
        refine wpAnyH_done (by kernel_rfl) (NoPanic.normal ?_) _
        clear hH
        go_wp2
        go_roundw
        case rel => exact ⟨k + 1, _, by omega, by go_num, I8⟩
        case measure => simp [intOf]; omega
    · obtain rfl : k = no := by omega
      have HP := hide (show Iou w ZM w2.heap.size C sl Ls (s.od.map (putF m s.ws gg)) (.slice pa k pc) vs wr from by
        have h := HO.out
        rw [List.take_of_length_le (by omega)] at h
        exact h)
      obtain ⟨r0, r1, r2, r3, r4, r5, r6, r7, r8, r9, r10, r11, r12, r13, r14, hroot⟩ : ∃ r0 r1 r2 r3 r4 r5 r6 r7 r8 r9 r10 r11 r12 r13 r14 : Int, rootF m n gg = [r0, r1, r2, r3, r4, r5, r6, r7, r8, r9, r10, r11, r12, r13, r14] := ⟨_, _, _, _, _, _, _, _, _, _, _, _, _, _, _, rfl⟩
      have HRt := hide hroot
      have hFw := HF.out.1.below (show Below w.heap.size w wr from HO.out.old)
      obtain ⟨a1, e1c, hR1, hC1, hr1⟩ := hFw.rd 1 (by omega)
      have hwn : (LL 1).length = n := by rw [HF.out.2.ws]; exact H.out.2.1.wl
      rw [hwn] at hR1 hC1 hr1
      obtain ⟨g1, g1c, _, _, hx1, _⟩ := hFw.wrow (by rw [hwn]; have := H.out.2.1.cu; omega)
      rw [hwn, (hFw.box.cell 1), hC1] at hx1
      injection hx1 with hx1
      injection hx1 with x1 x2 x3
      subst x1
      subst x3
      have HR1 := hide hR1
      have HC1 := hide hC1
      have HC9 := hide hFw.cur
      have KF := hide hFw.box
      obtain ⟨MO, hMO⟩ : ∃ MO, MO = (#[.int .i64 r0, .int .i64 r1, .int .i64 r2, .int .i64 r3, .int .i64 r4, .int .i64 r5, .int .i64 r6, .int .i64 r7, .int .i64 r8, .int .i64 r9, .int .i64 r10, .int .i64 r11, .int .i64 r12, .int .i64 r13, .int .i64 r14, .slice (some ⟨g1, 0, none⟩) n e1c, .int .i64 (s.cu : Int), .slice pa k pc] : Array Value) := ⟨_, rfl⟩
      have HMO := hide hMO
      have HInM := hide (show (Tryz.prog.info? 34).map (·.size) = some MO.size from by rw [hMO]; exact infoMO)
      have HOM := hide (show MO.all (·.oneCell') = true from by rw [hMO]; simp only [List.all_toArray, List.all_cons, List.all_nil]; rfl)
      have HSM := hide (show ZM.size = MO.size from by rw [hMO, HZM.out]; rfl)
      have HRo := hide (show ∀ W, NumS W (w.heap.size + 1) w2.heap.size 0 C 106 sl Ls → Calls Tryz.prog 73 #[.pointer (some ⟨w2.heap.size, 0, none⟩), .int .i64 (4 * (n : Int))] W fun e w' => e = .returned (.agg #[.int .i64 r0, .int .i64 r1, .int .i64 r2, .int .i64 r3, .int .i64 r4, .int .i64 r5, .int .i64 r6, .int .i64 r7, .int .i64 r8, .int .i64 r9, .int .i64 r10, .int .i64 r11, .int .i64 r12, .int .i64 r13, .int .i64 r14]) ∧ Below W.heap.size W w' from fun W hN => by
        have h := rootG_any w2.heap.size 0 (4 * n) (w.heap.size + 1) 106 C sl Ls W hN
        rw [HN.out.2.2.2.2.1.root, hroot, show ((4 * n : Nat) : Int) = 4 * (n : Int) by omega] at h
        exact h)
      have hnl : ¬ ((k : Int) < (k : Int)) := by omega
      clear hMO hroot hFw hR1 hC1 hr1 hwn x2 hlt hodl
      go_upto_region 12 with fail
      refine wp_region_noPanic ?_
      refine wp_region_held_drew (S := fun w' => Blk w' b CF 113) (by kernel_rfl) KF.out (fun hH => ?_)
      refine wpAnyH_take (i := 0) (oi := _) (v := .pointer (some ⟨b, 0, none⟩)) rfl (by kernel_rfl) (by kernel_rfl) (by kernel_rfl) (fun _ _ _ h => h) (Or.inl ⟨by rfl, fun w' hw' => by go_simp⟩) hH ?_
      try simp only [Act.put, getElem_toArray, getElem_cons_zero, getElem_cons_succ, setIfInBounds_toArray, set_cons_zero, set_cons_succ]
      refine wpAnyH_take (i := 3) (oi := _) (v := .pointer (some ⟨b, 0, none⟩)) rfl (by kernel_rfl) (by kernel_rfl) (by kernel_rfl) (fun _ _ _ h => h) (Or.inl ⟨by rfl, fun w' hw' => by go_simp⟩) hH ?_
      try simp only [Act.put, getElem_toArray, getElem_cons_zero, getElem_cons_succ, setIfInBounds_toArray, set_cons_zero, set_cons_succ]
      refine wpAnyH_take (i := 4) (oi := _) (v := .pointer (some ⟨b, 0, none⟩)) rfl (by kernel_rfl) (by kernel_rfl) (by kernel_rfl) (fun _ _ _ h => h) (Or.inl ⟨by rfl, fun w' hw' => by go_simp⟩) hH ?_
      try simp only [Act.put, getElem_toArray, getElem_cons_zero, getElem_cons_succ, setIfInBounds_toArray, set_cons_zero, set_cons_succ]
      refine wpAnyH_take (i := 5) (oi := _) (v := .pointer (some ⟨b, 1, none⟩)) rfl (by kernel_rfl) (by kernel_rfl) (by kernel_rfl) (fun _ _ _ h => h) (Or.inl ⟨by rfl, fun w' hw' => by go_simp⟩) hH ?_
      try simp only [Act.put, getElem_toArray, getElem_cons_zero, getElem_cons_succ, setIfInBounds_toArray, set_cons_zero, set_cons_succ]
      refine wpAnyH_take (i := 6) (oi := _) (v := .slice (some ⟨g1, 0, none⟩) n e1c) rfl (by kernel_rfl) (by kernel_rfl) (by kernel_rfl) (fun _ _ _ h => h) (Or.inl ⟨by rfl, fun w' hw' => by have hc := (Blk.cell hw' 1).trans HC1.out; clear hw'; go_simp⟩) hH ?_
      try simp only [Act.put, getElem_toArray, getElem_cons_zero, getElem_cons_succ, setIfInBounds_toArray, set_cons_zero, set_cons_succ]
      refine wpAnyH_take (i := 7) (oi := _) (v := .pointer (some ⟨b, 0, none⟩)) rfl (by kernel_rfl) (by kernel_rfl) (by kernel_rfl) (fun _ _ _ h => h) (Or.inl ⟨by rfl, fun w' hw' => by go_simp⟩) hH ?_
      try simp only [Act.put, getElem_toArray, getElem_cons_zero, getElem_cons_succ, setIfInBounds_toArray, set_cons_zero, set_cons_succ]
      refine wpAnyH_take (i := 8) (oi := _) (v := .pointer (some ⟨b, 0, none⟩)) rfl (by kernel_rfl) (by kernel_rfl) (by kernel_rfl) (fun _ _ _ h => h) (Or.inl ⟨by rfl, fun w' hw' => by go_simp⟩) hH ?_
      try simp only [Act.put, getElem_toArray, getElem_cons_zero, getElem_cons_succ, setIfInBounds_toArray, set_cons_zero, set_cons_succ]
      refine wpAnyH_take (i := 9) (oi := _) (v := .pointer (some ⟨b, 9, none⟩)) rfl (by kernel_rfl) (by kernel_rfl) (by kernel_rfl) (fun _ _ _ h => h) (Or.inl ⟨by rfl, fun w' hw' => by go_simp⟩) hH ?_
      try simp only [Act.put, getElem_toArray, getElem_cons_zero, getElem_cons_succ, setIfInBounds_toArray, set_cons_zero, set_cons_succ]
      refine wpAnyH_take (i := 10) (oi := _) (v := .int .i64 (s.cu : Int)) rfl (by kernel_rfl) (by kernel_rfl) (by kernel_rfl) (fun _ _ _ h => h) (Or.inl ⟨by rfl, fun w' hw' => by have hc := (Blk.cell hw' 9).trans HC9.out; clear hw'; go_simp⟩) hH ?_
      try simp only [Act.put, getElem_toArray, getElem_cons_zero, getElem_cons_succ, setIfInBounds_toArray, set_cons_zero, set_cons_succ]
      refine wpAnyH_take (i := 11) (oi := _) (v := .slice pa k pc) rfl (by kernel_rfl) (by kernel_rfl) (by kernel_rfl) (fun _ _ _ h => h) (Or.inl ⟨by rfl, fun w' hw' => by go_simp⟩) hH ?_
      try simp only [Act.put, getElem_toArray, getElem_cons_zero, getElem_cons_succ, setIfInBounds_toArray, set_cons_zero, set_cons_succ]
      refine wpAnyH_ready (rs := [1]) (by kernel_rfl) (by simp) ?_
      refine AllReadyH.cons (o := _) rfl ?_ AllReadyH.nil
      intro K hK
      go_simp
      refine (size_any b g1 n e1c wr.drew ((KF.out.below (show Below wr.heap.size wr wr.drew from (Below.refl _ _).drew) KF.out.lt).cell 1 |>.trans HC1.out) hn).mono ?_
      rintro e w4 ⟨rfl, rfl⟩
      refine hK.out _ _ (KF.out.below (show Below wr.heap.size wr wr.drew from (Below.refl _ _).drew) KF.out.lt) (fun hH => ?_)
      clear hK K
      try simp only [Act.put, getElem_toArray, getElem_cons_zero, getElem_cons_succ, setIfInBounds_toArray, set_cons_zero, set_cons_succ]
      refine wpAnyH_ready (rs := [2]) (by kernel_rfl) (by simp) ?_
      refine AllReadyH.cons (o := _) rfl ?_ AllReadyH.nil
      intro K hK
      go_simp
      refine (HRo.out _ (HP.out.now.below (show Below wr.heap.size wr wr.drew from (Below.refl _ _).drew))).mono ?_
      rintro e w5 ⟨rfl, b5⟩
      have b35 : Below wr.heap.size wr w5 := ((Below.refl _ _).drew).trans b5
      have P5 := hide (HP.out.below b35)
      have KF5 := hide (KF.out.below b35 KF.out.lt)
      clear b5 b35
      refine hK.out _ _ KF5.out (fun hH => ?_)
      clear hK K
      try simp only [Act.put, getElem_toArray, getElem_cons_zero, getElem_cons_succ, setIfInBounds_toArray, set_cons_zero, set_cons_succ]
      refine wpAnyH_take (i := 12) (oi := _) (v := .agg MO) rfl (by kernel_rfl) (by kernel_rfl) (by kernel_rfl) (fun _ _ _ h => h) (Or.inl ⟨by rfl, fun w' hw' => by rw [HMO.out]; clear hw'; go_simp⟩) hH ?_
      try simp only [Act.put, getElem_toArray, getElem_cons_zero, getElem_cons_succ, setIfInBounds_toArray, set_cons_zero, set_cons_succ]
      refine wpAnyH_ready (rs := [13]) (by kernel_rfl) (by simp) ?_
      refine AllReadyH.cons (o := _) rfl ?_ AllReadyH.nil
      intro K hK
      rw [if_pos (by rfl)]
      refine wp_store_row 34 _ _ rfl w.heap.size MO rfl rfl 34 ZM P5.out.res HInM.out HSM.out HOM.out ?_
      have hne : b ≠ w.heap.size := fun e => by
        have h1 := HF.out.1.box.lt
        omega
      refine hK.out _ _ ((setRow_other w5 w.heap.size b MO hne).trans KF5.out) (fun hH => ?_)
      clear hK K hne
      try simp only [Act.put, getElem_toArray, getElem_cons_zero, getElem_cons_succ, setIfInBounds_toArray, set_cons_zero, set_cons_succ]
      refine wpAnyH_done (by kernel_rfl) (NoPanic.normal ?_) _
      clear hH
      go_wp2
      refine bodyPost_ret (v := .agg MO) (results_cell_row rfl _ _ w.heap.size 34 _ (0, 0) _ rfl (P5.out.res.row _) Tryz.underlying34 rfl HInM.out) rfl ?_
      refine ⟨.slice pa k pc, vs, ?_, OwnN.mono (P5.out.puts.sameJ (fun r hr => setRow_other w5 w.heap.size r MO (by omega))) (by omega), below_setRow P5.out.old (Nat.le_refl _) _⟩
      rw [HRt.out, HR1.out, HMO.out]
      rfl
end Go.Proofs.YtlimollpocagiaaGreatDoor
