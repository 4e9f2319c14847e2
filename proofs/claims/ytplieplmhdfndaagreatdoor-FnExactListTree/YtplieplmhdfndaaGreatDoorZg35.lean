/- The program's allReached. -/
import Derived.Test.YtplieplmhdfndaaGreatDoorZg34
namespace Go.Proofs.YtplieplmhdfndaaGreatDoor
set_option linter.unusedVariables false
set_option linter.unusedSimpArgs false
open Go.RowKit Go.Shelf
attribute [local go_sem] Oper.semAt_some

theorem wpIn_append_ownO {F : Fence} {n : Nat} {P : Program} (w : World) {o : Oper} {a : Act} {K : Act → World → Prop} {Q : Exit → Act → World → Prop}
    (s x : Operand) (t : TypeId) (hop : o.op = Op.call { callee := Callee.builtin Builtin.append, args := #[s, x], argTypes := #[t, t] })
    (base : Nat) (e : TypeId) (i : TypeInfo) (z : Value) (size bytes : Nat) (h1 : P.underlying t = some (.slice e)) (h2 : P.info? e = some i) (h3 : i.zero = some z) (h4 : i.size = size) (h5 : i.bytes = bytes) (h6 : z.cells.size = size) (h7 : 0 < size)
    (v : Value) (k : Nat) (xs : List Value) (hs : a.eval s = v) (hown : w.ownsRow base e size v k xs) (ad : Addr) (m c : Nat) (news : List Value) (hx : a.eval x = .slice (some ad) m c) (hn : news.length = m * size)
    (hc : ∀ j u, news[j]? = some u → w.cell? (ad.add j) = some u) (h1c : ∀ u ∈ news, u.oneCell' = true) (b1 : k + m ≤ maxLen) (b2 : (k + m) * bytes ≤ 140737488355328) (b3 : base ≤ w.heap.size)
    (hK : ∀ v' w', w'.ownsRow base e size v' (k + m) (xs ++ news) → w.grownBy w' v.ownBlock → K (a.put o.dst v') w') :
    Oper.wpIn F n P o a w K Q := by
  obtain ⟨v', w', hrun, r1, r2, r3⟩ := run_append_own (P := P) w base t o.type e i z size bytes h1 h2 h3 h4 h5 h6 h7 v k xs hown ad m c news hn hc h1c b1 b2 b3
  unfold Oper.wpIn
  refine ⟨?_, ?_⟩
  · simp [Oper.about, hop, resolve, Target.leads, Sem.run_pure]
  · rw [Oper.semAt_plain F _ _ (by rw [hop]; intro c hc'; cases hc')]
    simp [execOp, hop, resolve, invoke, builtin, hs, hx, hrun, Result.andThen]
    exact hK v' w' r1 r2
theorem wpIn_runOS {F : Fence} {n : Nat} {P : Program} {w w' : World} {o : Oper} {a : Act} {K : Act → World → Prop} {Q : Exit → Act → World → Prop} (hnc : ∀ c, o.op ≠ .call c) (hnd : ∀ c, o.op ≠ .defer c) (hrun : (execOp a.eval o).run P w = .ok .skip w') (h : K (a.put o.dst undef) w') : Oper.wpIn F n P o a w K Q := by
  have hab : o.about P w a.eval = none := by
    unfold Oper.about
    split
    · rename_i c hc
      exact absurd hc (hnc c)
    · rfl
  unfold Oper.wpIn
  refine ⟨?_, ?_⟩
  · simp [hab]
  · rw [Oper.semAt_plain F _ _ hnd, hrun]
    exact h
theorem run_build1p {P : Program} {o : Oper} {a : Act} {w : World} (t e : TypeId) (x : Operand) (ho : o.op = .buildSlice t 1 #[(0, x)]) (p : Option Addr) (hx : a.eval x = .pointer p) (i : TypeInfo) (z : Value)
    (hu : P.underlying t = some (.slice e)) (hi : P.info? e = some i) (hz : i.zero = some z) (hs : i.size = 1) :
    (execOp a.eval o).run P w = .ok (.value (.slice (some ⟨w.heap.size, 0, none⟩) 1 1)) (w.alloc (.cells #[.pointer p] e)) := by
  have hf : Instr.fill (fun j => some (j * i.size, i.size)) ((Array.range (1 * i.size)).map (z.cells[· % z.cells.size]!)) [(0, Value.pointer p)] = some #[.pointer p] := by
    have := Great.fill_whole (s := i.size) (by omega) [.pointer p] ((Array.range (1 * i.size)).map (z.cells[· % z.cells.size]!)) (by intro v hv; simp at hv; subst hv; exact hs.symm) (by simp)
    simpa [Value.cells] using this
  have hr := run_buildSlice w t e 1 [(0, Value.pointer p)].toArray #[.pointer p] i z hu hi hz (by omega) (by omega) (by simpa using hf)
  have he : (#[(0, x)] : Array (Nat × Operand)).map (fun p => (p.1, a.eval p.2)) = [(0, Value.pointer p)].toArray := by simp [hx]
  unfold execOp
  simp only [ho]
  rw [← he] at hr
  simp only [Sem.run_bind, hr, Result.andThen_ok]
  rfl
theorem infoPn : (Tryz.prog.info? 82).map (fun i => (i.zero, i.size, i.bytes)) = some (some (.pointer none), 1, 8) := by kernel_rfl
/-- What lies in memory between two steps: the list of numbers Q as pointers, the state's box, the marks. -/
structure RcP (ps : Array Value) (w : World) (bs Bx : Nat) (Q Ds : List Nat) (W : World) : Prop where
  box : ∃ v, Boxed W Bx 83 v ∧ W.ownsRow w.heap.size 82 1 v Q.length (Q.map (pvN ps))
  sb : Boxed W w.heap.size 70 (.pointer (some ⟨bs, 0, none⟩))
  old : Below w.heap.size w W
  mks : Mks Ds W
  lo : ∀ D ∈ Ds, w.heap.size ≤ D ∧ D < W.heap.size
  nd : Ds.Nodup
  bx : w.heap.size < Bx
theorem RcP.grown {ps : Array Value} {w W W' : World} {bs Bx B : Nat} {Q Ds : List Nat} {row : Option Nat} (h : RcP ps w bs Bx Q Ds W) (hB : W.heap.size ≤ B ∨ (Bx < B ∧ ∀ D ∈ Ds, D < B)) (hg : W.grownBy W' row) (hr : ∀ r, row = some r → B ≤ r ∧ ∃ o, W.heap[r]? = some o ∧ o.isCells = false) : RcP ps w bs Bx Q Ds W' := by
  obtain ⟨v, hv, hrow⟩ := h.box
  have hsz := h.old.size
  have hbl : Bx < W.heap.size := hv.lt
  have hbx := h.bx
  have hBx : Bx < B ∧ ∀ D ∈ Ds, D < B := by
    rcases hB with hB | hB
    · exact ⟨by omega, fun D hD => by have := (h.lo D hD).2; omega⟩
    · exact hB
  refine ⟨⟨v, hv.kept hg (fun e => by have := (hr _ e.symm).1; omega), hrow.kept hg ?_⟩, h.sb.kept hg (fun e => by have := (hr _ e.symm).1; omega), h.old.grown hg hsz (fun k e => by have := (hr k e).1; omega), h.mks.grown hBx.2 hg (fun r e => (hr r e).1), fun D hD => ⟨(h.lo D hD).1, Nat.lt_of_lt_of_le (h.lo D hD).2 hg.size⟩, h.nd, h.bx⟩
  cases hb : v.ownBlock with
  | none => exact .inl rfl
  | some g =>
    refine .inr fun e => ?_
    rcases hrow.2 with ⟨rfl, _⟩ | ⟨g', cap, cur, rfl, _, hgb, _⟩
    · cases hb
    · obtain ⟨_, o, ho, hc⟩ := hr g e.symm
      cases hb
      rw [hgb] at ho
      cases ho
      cases hc
theorem RcP.alloc {ps : Array Value} {w W : World} {bs Bx : Nat} {Q Ds : List Nat} (h : RcP ps w bs Bx Q Ds W) (o : Obj) : RcP ps w bs Bx Q Ds (W.alloc o) :=
  h.grown (B := W.heap.size) (.inl (Nat.le_refl _)) (row := none) ⟨rfl, rfl, rfl, by simp, fun k hk _ => Below.heap_alloc _ _ k hk⟩ (fun r e => by cases e)
theorem RcP.drew {ps : Array Value} {w W : World} {bs Bx : Nat} {Q Ds : List Nat} (h : RcP ps w bs Bx Q Ds W) : RcP ps w bs Bx Q Ds W.drew :=
  h.grown (B := W.heap.size) (.inl (Nat.le_refl _)) (row := none) ⟨rfl, rfl, rfl, Nat.le_refl _, fun k _ _ => rfl⟩ (fun r e => by cases e)
/-- One more. -/
theorem RcP.push {ps : Array Value} {w W w1 : World} {bs Bx i : Nat} {Q Ds : List Nat} {v v' : Value} {tmp : Obj} (h : RcP ps w bs Bx Q Ds W) (hv : Boxed W Bx 83 v) (hrow : W.ownsRow w.heap.size 82 1 v Q.length (Q.map (pvN ps)))
    (hown : w1.ownsRow w.heap.size 82 1 v' (Q.length + 1) (Q.map (pvN ps) ++ [pvN ps i])) (hg : (W.alloc tmp).grownBy w1 v.ownBlock) :
    RcP ps w bs Bx (Q ++ [i]) Ds (w1.setCell ⟨Bx, 0, none⟩ v') ∧ KeepsOthers W (w1.setCell ⟨Bx, 0, none⟩ v') ∧ Below w.heap.size W (w1.setCell ⟨Bx, 0, none⟩ v') ∧ Boxed w1 Bx 83 v ∧ (∀ {X : Nat} {u : Value}, Boxed W X 79 u → Boxed (w1.setCell ⟨Bx, 0, none⟩ v') X 79 u) := by
  have hsz := h.old.size
  obtain ⟨hv1, hv2, hr2, hk2, hb2⟩ := Boxed.appended hv (by decide) hrow hsz (Nat.le_of_lt h.bx) hown hg
  have hoth : ∀ {X : Nat} {t : TypeId} {u : Value}, t ≠ 82 → X ≠ Bx → Boxed W X t u → Boxed (w1.setCell ⟨Bx, 0, none⟩ v') X t u := fun ht hX hb => ((hb.alloc tmp).kept hg (hb.not_row ht hrow)).other hX _
  refine ⟨⟨⟨v', hv2, ?_⟩, hoth (by decide) (fun e => by have := h.bx; omega) h.sb, h.old.trans hb2, h.mks.keep hk2, fun D hD => ⟨(h.lo D hD).1, Nat.lt_of_lt_of_le (h.lo D hD).2 hk2.size⟩, h.nd, h.bx⟩, hk2, hb2, hv1, fun {X u} hb => hoth (by decide) (fun e => ?_) hb⟩
  · rw [List.length_append, List.map_append]
    exact hr2
  · subst e
    have h1 : W.heap[X]? = some (.cells #[u] 79) := hb
    have h2 : W.heap[X]? = some (.cells #[v] 83) := hv
    rw [h1] at h2
    injection h2 with h2
    injection h2 with _ h2
    exact absurd h2 (by decide)
/-- The directories among entries. -/
def chX {es : List (ByteArray × Nat × Nat)} (pre : List (EsX es)) : List Nat := ((pre.map Subtype.val).filter (fun e => e.2.2 == 2)).map (fun e => e.2.1)
theorem chX_dir {es : List (ByteArray × Nat × Nat)} (pre : List (EsX es)) (x : EsX es) (h : x.1.2.2 = 2) : chX (pre ++ [x]) = chX pre ++ [x.1.2.1] := by
  unfold chX
  simp [h]
theorem chX_not {es : List (ByteArray × Nat × Nat)} (pre : List (EsX es)) (x : EsX es) (h : x.1.2.2 ≠ 2) : chX (pre ++ [x]) = chX pre := by
  unfold chX
  simp [h]
theorem chX_le {es : List (ByteArray × Nat × Nat)} (pre : List (EsX es)) : (chX pre).length ≤ pre.length := by
  unfold chX
  rw [List.length_map]
  exact Nat.le_trans (List.length_filter_le _ _) (by simp)
theorem chX_allE {L : List Nd} {x : Nat} {es : List (ByteArray × Nat × Nat)} (xs : List (EsX es)) (h : xs.map Subtype.val = es) (he : es = entN (ndAt L x)) : chX xs = chE (numE L) x := by
  unfold chX chE numE
  rw [h, he, List.filter_map, List.map_map]
  rfl
theorem entN_some {x : Nd} (hk : x.k = 2) (hok : dirOk x.d = true) : entT x.d (x.d.length / 32) = some (entN x) := by
  unfold entN
  rw [if_pos hk]
  have h1 : (entT x.d (x.d.length / 32)).isSome = true := by
    unfold dirOk at hok
    simp only [Bool.and_eq_true] at hok
    exact hok.2.2.1
  obtain ⟨es, hes⟩ := Option.isSome_iff_exists.1 h1
  rw [hes]; rfl
theorem entT_le {zs : List Int} : ∀ {k : Nat} {es : List (ByteArray × Nat × Nat)}, entT zs k = some es → es.length ≤ k
  | 0, es, h => by cases h; simp
  | k + 1, fs, h => by
    obtain ⟨es, h1, h2⟩ := entT_some h
    have := entT_le h1
    rcases h2 with ⟨_, rfl⟩ | ⟨_, _, _, rfl⟩
    · omega
    · simp; omega
theorem DirR.ok {w : World} {d : Nat} {zs : List Int} (h : DirR w d zs) : dirOk zs = true := by obtain ⟨_, _, _, _, _, _, h⟩ := h; exact h
theorem own_shapeX {w : World} {base : Nat} {e : TypeId} {v : Value} {n : Nat} {xs : List Value} (h : w.ownsRow base e 1 v n xs) : ∃ a cap, v = .slice a n cap := by
  rcases h.2 with ⟨rfl, rfl⟩ | ⟨g, cap, _, rfl, _⟩
  · exact ⟨_, _, rfl⟩
  · exact ⟨_, _, rfl⟩
set_option maxRecDepth 100000 in
set_option maxHeartbeats 4000000 in
theorem allReached_any (bs bn : Nat) (C : Int) (L : List Nd) (ps : Array Value) (w : World) (h : OpS w bs bn C L ps) (hL : L.length ≤ 1001) (hS : StC L.length (numE L) (kdN L)) (hk : ∀ i, i < L.length → 0 ≤ (ndAt L i).k) :
    Calls Tryz.prog 101 #[.pointer (some ⟨bs, 0, none⟩)] w fun e w' => e = .returned (.bool (decide ((bfs (chE (numE L)) L.length [] [1]).length = ((List.range L.length).filter (kdN L · == 2)).length))) ∧ Below w.heap.size w w' := by
  obtain ⟨N, hN⟩ : ∃ N, N = L.length := ⟨_, rfl⟩
  obtain ⟨W1, hW1⟩ : ∃ W1, W1 = w.alloc (.cells #[.pointer (some ⟨bs, 0, none⟩)] 70) := ⟨_, rfl⟩
  have b1 : Below w.heap.size w W1 := by rw [hW1]; exact (Below.refl _ _).alloc (Nat.le_refl _) _
  have K1 := hide (show Boxed W1 w.heap.size 70 (.pointer (some ⟨bs, 0, none⟩)) from by rw [hW1]; exact Boxed.new w _ _)
  have HO := hide h
  have HO1 := hide (h.below b1)
  have HB := hide b1
  have HN := hide hN
  have HW1 := hide hW1
  have HST := hide hS
  have HK := hide hk
  rw [← hN] at hL
  clear h b1 hW1 hN hS hk
  have hst : W1.cell? ⟨bs, 1, none⟩ = some (.slice (some ⟨bn, 0, none⟩) N N) := by rw [HN.out]; exact (HO1.out.st.cell 1).trans rfl
  have hb0 := K1.out.cell
  refine (callsIn_wide (n := 6)).1 ?_
  refine callsIn_of_wp_marks Tryz.func101 rfl trivial ?_ rfl
  simp only [Tryz.ntmps101, List.size_toArray, List.length_cons, List.length_nil, Nat.reduceAdd, Nat.reduceSub, Array.replicate_succ, Array.replicate_zero, List.push_toArray, List.append_toArray, List.nil_append, List.cons_append]
  gi_upto_region 2 with fail
  rw [← HW1.out]
  gi_wp2
  gi_loopw [3, 14] (fun cv iv wr => ∃ k : Nat, k ≤ N ∧ iv = .int .i64 (k : Int) ∧ cv = .int .i64 (dcN L k : Int) ∧ W1 = wr) (fun _ iv _ => N - (intOf iv).toNat)
  case atStart => exact ⟨0, Nat.zero_le _, rfl, rfl, rfl⟩
  case round =>
    obtain ⟨k, hk, rfl, rfl, rfl⟩ := hrel
    have HD1 := hide (dcN_succ L k)
    have hdl := dcN_le L k
    obtain ⟨dk, hdk⟩ : ∃ dk, dk = dcN L k := ⟨_, rfl⟩
    rw [← hdk] at HD1 hdl ⊢
    have HDK := hide hdk
    clear hdk
    by_cases hlt : k < N
    · obtain ⟨hp, hop⟩ := HO1.out.nd.pv (i := k) (by rw [← HN.out]; exact hlt)
      have HP := hide hop
      have hkn := HK.out k (by rw [← HN.out]; exact hlt)
      obtain ⟨p, hpp⟩ : ∃ p, p = pvN ps k := ⟨_, rfl⟩
      rw [← hpp] at hp HP
      clear hop hpp
      by_cases h0 : (ndAt L k).k = 0
      · obtain rfl := HP.out.free h0
        have HD2 := hide (show dcN L (k + 1) = dk from by rw [HD1.out, if_neg (by unfold kdN; rw [h0]; simp), Nat.add_zero])
        clear h0 HP
        gi_wp2
        go_roundw
        case rel => exact ⟨k + 1, by omega, by go_num, by rw [HD2.out], trivial⟩
        case measure => simp [intOf]; omega
      obtain ⟨g, na, nc, dp, rfl, hblk, _, _, hd1, hd2⟩ := HP.out.some h0
      have g10 := (hblk.cell 10).trans (show _ = some (.pointer dp) from rfl)
      by_cases h2 : (ndAt L k).k = 2
      · obtain ⟨d, rfl, _⟩ := hd2 h2
        have HD2 := hide (show dcN L (k + 1) = dk + 1 from by rw [HD1.out, if_pos (by unfold kdN; rw [h2]; rfl)])
        clear h0 h2 HP hd1 hd2 hblk
        gi_wp2
        go_roundw
        case rel => exact ⟨k + 1, by omega, by go_num, by rw [HD2.out]; go_num, trivial⟩
        case measure => simp [intOf]; omega
      · obtain rfl := hd1 h2
        have HD2 := hide (show dcN L (k + 1) = dk from by rw [HD1.out, if_neg (by unfold kdN; omega), Nat.add_zero])
        clear h0 h2 HP hd1 hd2 hblk
        gi_wp2
        go_roundw
        case rel => exact ⟨k + 1, by omega, by go_num, by rw [HD2.out], trivial⟩
        case measure => simp [intOf]; omega
    · have hkN : k = N := by omega
      have HDN := hide (show dk = ((List.range L.length).filter (kdN L · == 2)).length from by rw [HDK.out, hkN, HN.out]; rfl)
      obtain ⟨hp1, hop1⟩ := HO1.out.nd.pv (i := 1) HST.out.root.1
      have hk1 : (ndAt L 1).k = 2 := by have := HST.out.root.2; unfold kdN at this; omega
      obtain ⟨g1, _, _, _, hpp1, _⟩ := hop1.some (by omega)
      rw [hpp1] at hp1
      have HP1 := hide hpp1
      have hN1 : 1 < N := by rw [HN.out]; exact HST.out.root.1
      clear hkN HD1 HDK hk hop1 hk1 hpp1
      gi_wp2
      obtain ⟨R0, hR0⟩ : ∃ R0, R0 = W1.heap.size := ⟨_, rfl⟩
      obtain ⟨Bx, hBx⟩ : ∃ Bx, Bx = W1.heap.size + 1 := ⟨_, rfl⟩
      obtain ⟨W2, hW2⟩ : ∃ W2, W2 = ((W1.alloc (.cells #[.pointer (some ⟨g1, 0, none⟩)] 82)).alloc (.cells #[.slice (some ⟨W1.heap.size, 0, none⟩) 1 1] 83)) := ⟨_, rfl⟩
      have I0 := hide (show RcP ps w bs Bx [1] [] W2 from by
        have hs1 : W1.heap.size = w.heap.size + 1 := by rw [HW1.out]; simp
        have hBl : Below W1.heap.size W1 W2 := by rw [hW2]; exact ((Below.refl _ _).alloc (Nat.le_refl _) _).alloc (by simp) _
        refine ⟨⟨.slice (some ⟨W1.heap.size, 0, none⟩) 1 1, ?_, ?_⟩, ?_, HB.out.trans (hBl.mono HB.out.size), fun D hD => (by cases hD), fun D hD => (by cases hD), List.nodup_nil, by omega⟩
        · rw [hW2, hBx]
          have h := Boxed.new (W1.alloc (.cells #[.pointer (some ⟨g1, 0, none⟩)] 82)) 83 (.slice (some ⟨W1.heap.size, 0, none⟩) 1 1)
          rw [World.size_alloc] at h
          exact h
        · refine ⟨rfl, .inr ⟨W1.heap.size, 1, #[.pointer (some ⟨g1, 0, none⟩)], rfl, by omega, ?_, Nat.le_refl _, by unfold maxLen; omega, rfl, ?_⟩⟩
          · rw [hW2, Below.heap_alloc _ _ _ (by simp)]
            exact World.alloc_heap_new W1 _
          · simp [HP1.out]
        · exact (hBl.block _ K1.out.lt).trans K1.out)
      rw [← hW2, ← hBx, ← hR0]
      have BQ0 := hide (BqI.start HST.out)
      clear hW2 hBx hR0 hp1 hst hb0 HP1
      refine wpIn_loop (fun a' w' => ∃ (P T Ds : List Nat) (u8 u37 u38 u39 u40 u41 u42 u43 u44 u45 u46 u47 u48 u49 u50 u51 u52 u53 u54 u55 u56 u57 u58 u59 u60 u61 u62 u63 u64 u65 : Value), a' = { tmps := #[.pointer (some ⟨bs, 0, none⟩), .pointer (some ⟨w.heap.size, 0, none⟩), .bool false, .int .i64 (dk : Int), undef, u5, .pointer (some ⟨Bx, 0, none⟩), .int .i64 (P.length : Int), u8, .pointer (some ⟨bs, 0, none⟩), .pointer (some ⟨bs, 0, none⟩), .pointer (some ⟨bs, 1, none⟩), .slice (some ⟨bn, 0, none⟩) N N, .int .i64 (N : Int), .int .i64 (k : Int), .bool false, u16, u17, u18, u19, u20, u21, u22, u23, u24, u25, u26, u27, u28, u29, .pointer (some ⟨bs, 0, none⟩), .pointer (some ⟨bs, 0, none⟩), .pointer (some ⟨bs, 1, none⟩), .slice (some ⟨bn, 0, none⟩) N N, .pointer (some ⟨bn, 1, none⟩), .pointer (some ⟨g1, 0, none⟩), .slice (some ⟨R0, 0, none⟩) 1 1, u37, u38, u39, u40, u41, u42, u43, u44, u45, u46, u47, u48, u49, u50, u51, u52, u53, u54, u55, u56, u57, u58, u59, u60, u61, u62, u63, u64, u65, undef, undef, undef, undef], defers := mksD Ds } ∧ Hid (BqI L P T) ∧ Hid (RcP ps w bs Bx (P ++ T) Ds w')) (fun a' _ => N - (intOf (a'.tmps.getD 7 undef)).toNat) ⟨[], [1], [], _, _, _, _, _, _, _, _, _, _, _, _, _, _, _, _, _, _, _, _, _, _, _, _, _, _, _, _, _, _, rfl, BQ0, I0⟩ ?_
      intro a' wr hinv
      obtain ⟨P, T, Ds, u8, u37, u38, u39, u40, u41, u42, u43, u44, u45, u46, u47, u48, u49, u50, u51, u52, u53, u54, u55, u56, u57, u58, u59, u60, u61, u62, u63, u64, u65, rfl, HBQ, HI⟩ := hinv
      have hml : P.length + T.length ≤ N := by rw [HN.out]; exact HBQ.out.bf.len
      have hb0 := HI.out.sb.cell
      obtain ⟨v, hbx, hrow⟩ := HI.out.box
      obtain ⟨at_, hat⟩ : ∃ at_, at_ = P.length := ⟨_, rfl⟩
      obtain ⟨m, hm⟩ : ∃ m, m = (P ++ T).length := ⟨_, rfl⟩
      have hma : m = at_ + T.length := by rw [hm, hat]; simp
      have HAT := hide hat
      rw [← hm] at hrow
      rw [← hat] at hml ⊢
      obtain ⟨va, vc, rfl⟩ := own_shapeX hrow
      have c6 := hbx.cell
      cases T with
      | nil =>
        have hma2 : m = at_ := by simpa using hma
        subst hma2
        have HRES := hide (show (decide ((bfs (chE (numE L)) L.length [] [1]).length = ((List.range L.length).filter (kdN L · == 2)).length)) = ((m : Int) == (dk : Int)) from by
          rw [← HBQ.out.done, ← HDN.out, ← HAT.out, Bool.eq_iff_iff]
          simp
          omega)
        clear hma hm hat hrow hbx
        gi_wp2
        refine leaves_marks w.heap.size Ds wr HI.out.mks HI.out.nd (fun D hD => (HI.out.lo D hD).1) (fun W' hb _ => ?_)
        refine ⟨_, results_tmp rfl _ _ _, ?_, HI.out.old.trans hb⟩
        rw [HRES.out]
        rfl
      | cons x T' =>
        have hlt : at_ < m := by rw [hma]; simp
        have hltI : (at_ : Int) < (m : Int) := by omega
        obtain ⟨hxl, hxk⟩ := HBQ.out.dir HST.out (x := x) (by simp)
        obtain ⟨hpw, hopw⟩ := HO.out.nd.pv (i := x) hxl
        obtain ⟨gx, na, nc, dp, hpx, hblkw, _, _, _, hd2⟩ := hopw.some (by omega)
        obtain ⟨d, rfl, hDR⟩ := hd2 hxk
        have g10 : wr.cell? ⟨gx, 10, none⟩ = some (.pointer (some ⟨d, 0, none⟩)) := (HI.out.old.cell (p := ⟨gx, 10, none⟩) hblkw.lt).trans ((hblkw.cell 10).trans rfl)
        obtain ⟨gr, cr, hvr, hgr1, hgr2, hgc⟩ := own_sliceD hrow (by omega)
        injection hvr with e1 e2 e3
        subst e1
        subst e3
        have cx : wr.cell? ⟨gr, at_, none⟩ = some (.pointer (some ⟨gx, 0, none⟩)) := by
          have h1 := hgc at_ (pvN ps x) (by rw [HAT.out, List.getElem?_map, List.getElem?_append_right (Nat.le_refl _), Nat.sub_self]; rfl)
          rw [Addr.add_mid, Nat.zero_add, hpx] at h1
          exact h1
        have HDR := hide hDR
        have HES := hide (entN_some hxk hDR.ok)
        have HEL := hide (show (entN (ndAt L x)).length ≤ 8192 from by
          have h1 := entT_le HES.out
          have h2 := dirOk_lenQ hDR.ok
          omega)
        have HROW := hide hrow
        have HBX := hide hbx
        have HM := hide (And.intro hm hma)
        have HXK := hide (And.intro hxl hxk)
        clear hxl hxk hpw hopw hblkw hd2 hDR hrow hbx hgc hm hma hat e2 hgr1 hgr2 hpx
        gi_wp2_with (refine ⟨trivial, ?_⟩; gi_at_call 98; fail)
        refine ⟨trivial, ?_⟩
        refine (all_in _ d _).mono ?_
        rintro e w' ⟨rfl, rfl⟩
        gi_wp2
        obtain ⟨Wl, hWl⟩ : ∃ Wl, Wl = wr.alloc (.cells #[.pointer (some ⟨d, 0, none⟩)] 79) := ⟨_, rfl⟩
        rw [← hWl]
        obtain ⟨X, hX⟩ : ∃ X, X = wr.heap.size := ⟨_, rfl⟩
        rw [← hX]
        have HXB := hide (show Boxed Wl X 79 (.pointer (some ⟨d, 0, none⟩)) from by rw [hWl, hX]; exact Boxed.new wr _ _)
        have HIl := hide (show RcP ps w bs Bx (P ++ x :: T') Ds Wl from by rw [hWl]; exact HI.out.alloc _)
        have hXs : X < Wl.heap.size := HXB.out.lt
        have HXw := hide (show w.heap.size ≤ X from by rw [hX]; exact HI.out.old.size)
        have hmx : Tryz.prog.follows .mixedOrders = true := by kernel_rfl
        obtain ⟨es, hes⟩ : ∃ es, es = entN (ndAt L x) := ⟨_, rfl⟩
        rw [← hes] at HES HEL
        have HEE := hide hes
        clear hWl hX hes g10 cx c6 hb0
        refine wpIn_rangeFunc_ownH rfl (by omega) (gf := 146) (lb := #[.pointer (some ⟨X, 0, none⟩)]) rfl trivial (enters_of Tryz.func146 (by kernel_rfl) rfl)
          (all_stops 5 (by omega) X w.heap.size d (ndAt L x).d es w Wl HDR.out rfl HIl.out.old HES.out HXB.out) Kd.trans (Kd_b HIl.out.old.size hXs) (Below.refl _ _) (fun _ => rfl)
          (fun pre W => RcP ps w bs Bx (P ++ x :: T' ++ chX pre) Ds W ∧ Boxed W X 79 (.pointer (some ⟨d, 0, none⟩)) ∧ Wl.heap.size ≤ W.heap.size)
          (fun _ _ _ => False)
          (by
            rintro pre A B row ⟨h1, h2, h3⟩ hg hr
            refine ⟨h1.grown (.inr ⟨?_, fun D hD => (HIl.out.lo D hD).2⟩) hg hr, h2.kept hg (fun e => by have := (hr _ e.symm).1; omega), Nat.le_trans h3 hg.size⟩
            obtain ⟨v, hv, _⟩ := HIl.out.box
            exact hv.lt)
          (fun c => by rintro pre A B row h hg hr; exact h)
          ⟨by rw [show chX ([] : List (EsX es)) = [] from rfl, List.append_nil]; exact HIl.out, HXB.out, Nat.le_refl _⟩
          (fun x a' Wx => ∃ c, a' = { tmps := #[.pointer (some ⟨bs, 0, none⟩), .pointer (some ⟨w.heap.size, 0, none⟩), .bool false, .int .i64 (dk : Int), undef, u5, .pointer (some ⟨Bx, 0, none⟩), .int .i64 (at_ : Int), .pointer (some ⟨c, 0, none⟩), .pointer (some ⟨bs, 0, none⟩), .pointer (some ⟨bs, 0, none⟩), .pointer (some ⟨bs, 1, none⟩), .slice (some ⟨bn, 0, none⟩) N N, .int .i64 (N : Int), .int .i64 (k : Int), .bool false, u16, u17, u18, u19, u20, u21, u22, u23, u24, u25, u26, u27, u28, u29, .pointer (some ⟨bs, 0, none⟩), .pointer (some ⟨bs, 0, none⟩), .pointer (some ⟨bs, 1, none⟩), .slice (some ⟨bn, 0, none⟩) N N, .pointer (some ⟨bn, 1, none⟩), .pointer (some ⟨g1, 0, none⟩), .slice (some ⟨R0, 0, none⟩) 1 1, .int .i64 (at_ : Int), .slice (some ⟨gr, 0, none⟩) m vc, .int .i64 (m : Int), .bool true, u41, u42, .slice (some ⟨gr, 0, none⟩) m vc, .int .i64 (at_ : Int), .pointer (some ⟨gr, at_, none⟩), .pointer (some ⟨gx, 0, none⟩), .pointer (some ⟨gx, 0, none⟩), .pointer (some ⟨gx, 10, none⟩), .pointer (some ⟨d, 0, none⟩), .func (.func 146) #[] #[.pointer (some ⟨X, 0, none⟩)], entV x.1, u52, u53, u54, u55, u56, u57, u58, u59, u60, u61, u62, u63, u64, u65, undef, undef, undef, undef], defers := [] } ∧ Blk Wx c #[.string x.1.1, .int .i64 (x.1.2.1 : Int), .int .i64 (x.1.2.2 : Int)] 61)
          (by
            rintro x a' _ A B row ⟨c, h1, h2⟩ hg hr
            refine ⟨c, h1, (hg.block c h2.lt (fun e => ?_)).trans h2⟩
            obtain ⟨_, o, ho, hc⟩ := hr c e.symm
            have h2' : A.heap[c]? = some (.cells _ _) := h2
            rw [h2'] at ho
            cases ho
            cases hc)
          ?assign ?body ?done ?stop
        case assign =>
          rintro l pre ⟨⟨nm, ino, kd⟩, hmem⟩ Wx K hI hK
          have HK := hide (And.intro hI hK)
          clear hI hK
          unfold entV
          gi_wp2
          have bA : Below Wx.heap.size Wx (Wx.alloc (.cells #[.string nm, .int .i64 (ino : Int), .int .i64 (kd : Int)] 61)) := (Below.refl _ _).alloc (Nat.le_refl _) _
          have hXx : X < Wx.heap.size := HK.out.1.2.1.lt
          exact HK.out.2 _ _ ((KeepsOthers.alloc _ _).from _) ⟨bA.mono HK.out.1.1.old.size, bA.block X hXx⟩ ⟨HK.out.1.1.alloc _, HK.out.1.2.1.alloc _, Nat.le_trans HK.out.1.2.2 bA.size⟩ ⟨_, rfl, Blk.new _ _ _⟩
        case body =>
          rintro l pre ⟨⟨nm, ino, kd⟩, hmem⟩ a' Wx hl hr ⟨hI, hXB, hWs⟩ ⟨c, rfl, kc⟩ hplen
          dsimp only at kc ⊢
          have c1 := (kc.cell 1).trans (show _ = some (.int .i64 (ino : Int)) from rfl)
          have c2 := (kc.cell 2).trans (show _ = some (.int .i64 (kd : Int)) from rfl)
          by_cases hk2 : kd = 2
          rotate_left
          · have hkb : ((kd : Int) == 2) = false := by simp; omega
            have HI2 := hide (show RcP ps w bs Bx (P ++ x :: T' ++ chX (pre ++ [⟨(nm, ino, kd), hmem⟩])) Ds Wx from by rw [chX_not _ _ hk2]; exact hI)
            have HXB2 := hide hXB
            clear hk2 hI hXB kc
            gi_wp2
            exact ⟨KeepsFrom.refl _ _, ⟨Below.refl _ _, rfl⟩, HI2.out, HXB2.out, hWs⟩
          have hkb : ((kd : Int) == 2) = true := by rw [hk2]; rfl
          have HCX := hide (chX_dir pre ⟨(nm, ino, kd), hmem⟩ hk2)
          have hil : ino < L.length := by
            have h1 : (ino, kd) ∈ numE L x := by
              unfold numE
              rw [← HEE.out]
              exact List.mem_map.2 ⟨_, hmem, rfl⟩
            exact (HST.out.ok x HXK.out.1 _ h1).2.1
          obtain ⟨hpi, hopi⟩ := HO.out.nd.pv (i := ino) hil
          have hki : (ndAt L ino).k = 2 := by
            have h1 : (ino, kd) ∈ numE L x := by
              unfold numE
              rw [← HEE.out]
              exact List.mem_map.2 ⟨_, hmem, rfl⟩
            have := (HST.out.ok x HXK.out.1 _ h1).2.2
            unfold kdN at this
            dsimp only at this
            omega
          obtain ⟨gi, _, _, _, hpgi, _⟩ := hopi.some (by omega)
          rw [hpgi] at hpi
          have HPG := hide hpgi
          have cN : (World.drew Wx).cell? ⟨bn, ino, none⟩ = some (.pointer (some ⟨gi, 0, none⟩)) := (hI.old.cell (p := ⟨bn, ino, none⟩) (cell_lt hpi)).trans hpi
          have cS : (World.drew Wx).cell? ⟨bs, 1, none⟩ = some (.slice (some ⟨bn, 0, none⟩) N N) := by
            rw [HN.out]
            exact (hI.old.cell (p := ⟨bs, 1, none⟩) HO.out.st.lt).trans ((HO.out.st.cell 1).trans rfl)
          have cB : (World.drew Wx).cell? ⟨w.heap.size, 0, none⟩ = some (.pointer (some ⟨bs, 0, none⟩)) := hI.sb.cell
          have d1 : (World.drew Wx).cell? ⟨c, 1, none⟩ = some (.int .i64 (ino : Int)) := c1
          obtain ⟨v, hv, hrow⟩ := hI.box
          obtain ⟨qa, qc, rfl⟩ := own_shapeX hrow
          obtain ⟨q, hq⟩ : ∃ q, q = (P ++ x :: T' ++ chX pre).length := ⟨_, rfl⟩
          have hqb : q ≤ 9193 := by
            have h1 := chX_le pre
            have h2 := HEL.out
            rw [hq, List.length_append]
            have h3 : (P ++ x :: T').length = m := HM.out.1.symm
            rw [h3]
            have h4 := HM.out.2
            simp only [List.length_cons] at hml h4
            omega
          have HQ := hide hq
          have HROW := hide hrow
          have HV := hide hv
          have HI := hide hI
          have HXB2 := hide hXB
          have hiI : (ino : Int) < (N : Int) := by rw [HN.out]; omega
          have hiJ : ¬ ((N : Int) ≤ (ino : Int)) := by omega
          have hiN : ino < N := by rw [HN.out]; exact hil
          rw [← hq] at HROW HV
          have c6 : (World.drew Wx).cell? ⟨Bx, 0, none⟩ = some (.slice qa q qc) := HV.out.cell
          clear hk2 hI hXB kc hrow hv hq hopi hpi hil hki hpgi
          gi_upto_region 15 with fail
          refine wpIn_region_any (by assumption) ?_
          change wpAnyIn _ _ _ _ _ _ _ _ _ (World.drew Wx)
          obtain ⟨Wq, hWq⟩ : ∃ Wq, Wq = (World.drew Wx).alloc (.cells #[.pointer (some ⟨gi, 0, none⟩)] 82) := ⟨_, rfl⟩
          have HFX := hide (show ∀ wx, (wx = World.drew Wx ∨ wx = Wq) → wx.cell? ⟨bn, ino, none⟩ = some (.pointer (some ⟨gi, 0, none⟩)) ∧ wx.cell? ⟨bs, 1, none⟩ = some (.slice (some ⟨bn, 0, none⟩) N N) ∧ wx.cell? ⟨w.heap.size, 0, none⟩ = some (.pointer (some ⟨bs, 0, none⟩)) ∧ wx.cell? ⟨c, 1, none⟩ = some (.int .i64 (ino : Int)) ∧ wx.cell? ⟨Bx, 0, none⟩ = some (.slice qa q qc) from fun wx h => by
            rcases h with rfl | rfl
            · exact ⟨cN, cS, cB, d1, c6⟩
            · rw [hWq]
              exact ⟨(World.cell?_alloc_lt _ _ _ (cell_lt cN)).trans cN, (World.cell?_alloc_lt _ _ _ (cell_lt cS)).trans cS, (World.cell?_alloc_lt _ _ _ (cell_lt cB)).trans cB, (World.cell?_alloc_lt _ _ _ (cell_lt d1)).trans d1, (World.cell?_alloc_lt _ _ _ (cell_lt c6)).trans c6⟩)
          have HWq := hide hWq
          obtain ⟨i0, hi0, hz0, hz1, hz2⟩ := info_parts infoPn
          have HT := hide (And.intro hi0 (And.intro hz0 (And.intro hz1 hz2)))
          clear cN cS cB d1 c6 c1 c2 hWq hi0 hz0 hz1 hz2
          refine wpAnyIn_readsAB [(1, .pointer (some ⟨w.heap.size, 0, none⟩)), (6, .pointer (some ⟨Bx, 0, none⟩)), (8, .pointer (some ⟨c, 0, none⟩))] (World.drew Wx) Wq 9 (fun i => match i with | 0 => .slice qa q qc | 1 => .pointer (some ⟨bs, 0, none⟩) | 2 => .pointer (some ⟨bs, 0, none⟩) | 3 => .pointer (some ⟨bs, 1, none⟩) | 4 => .slice (some ⟨bn, 0, none⟩) N N | 5 => .pointer (some ⟨c, 1, none⟩) | 6 => .int .i64 (ino : Int) | 7 => .pointer (some ⟨bn, ino, none⟩) | 8 => .pointer (some ⟨gi, 0, none⟩) | _ => .slice (some ⟨Wx.heap.size, 0, none⟩) 1 1) 70 [] 10 (by decide) (by kernel_rfl) (by kernel_rfl) ?hstep ?hfin _ rfl rfl (by
            intro t v h
            simp only [List.mem_cons, List.not_mem_nil, or_false, Prod.mk.injEq] at h
            rcases h with ⟨rfl, rfl⟩ | ⟨rfl, rfl⟩ | ⟨rfl, rfl⟩ <;> rfl)
          case hstep =>
            intro i o listed ac him hi hall wx hwx hwj hI9
            obtain ⟨cN, cS, cB, d1, c6⟩ := HFX.out wx hwx
            have f1 : ac.tmps.getD 1 undef = .pointer (some ⟨w.heap.size, 0, none⟩) := hI9.fix 1 _ (by simp)
            have f6 : ac.tmps.getD 6 undef = .pointer (some ⟨Bx, 0, none⟩) := hI9.fix 6 _ (by simp)
            have f8 : ac.tmps.getD 8 undef = .pointer (some ⟨c, 0, none⟩) := hI9.fix 8 _ (by simp)
            match i, him, hi with
            | 0, _, hi =>
              obtain rfl := Option.some.inj hi
              exact ⟨by rfl, (fun c => by intro h; cases h), (fun c => by intro h; cases h), by rw [if_neg (by decide)]; go_simp⟩
            | 1, _, hi =>
              obtain rfl := Option.some.inj hi
              exact ⟨by rfl, (fun c => by intro h; cases h), (fun c => by intro h; cases h), by rw [if_neg (by decide)]; go_simp⟩
            | 2, _, hi =>
              obtain rfl := Option.some.inj hi
              have v1 : ac.tmps.getD 56 undef = .pointer (some ⟨bs, 0, none⟩) := hI9.at hall 1 56 rfl rfl (by rfl)
              exact ⟨by rfl, (fun c => by intro h; cases h), (fun c => by intro h; cases h), by rw [if_neg (by decide)]; go_simp⟩
            | 3, _, hi =>
              obtain rfl := Option.some.inj hi
              have v2 : ac.tmps.getD 57 undef = .pointer (some ⟨bs, 0, none⟩) := hI9.at hall 2 57 rfl rfl (by rfl)
              exact ⟨by rfl, (fun c => by intro h; cases h), (fun c => by intro h; cases h), by rw [if_neg (by decide)]; go_simp⟩
            | 4, _, hi =>
              obtain rfl := Option.some.inj hi
              have v3 : ac.tmps.getD 58 undef = .pointer (some ⟨bs, 1, none⟩) := hI9.at hall 3 58 rfl rfl (by rfl)
              exact ⟨by rfl, (fun c => by intro h; cases h), (fun c => by intro h; cases h), by rw [if_neg (by decide)]; go_simp⟩
            | 5, _, hi =>
              obtain rfl := Option.some.inj hi
              exact ⟨by rfl, (fun c => by intro h; cases h), (fun c => by intro h; cases h), by rw [if_neg (by decide)]; go_simp⟩
            | 6, _, hi =>
              obtain rfl := Option.some.inj hi
              have v5 : ac.tmps.getD 60 undef = .pointer (some ⟨c, 1, none⟩) := hI9.at hall 5 60 rfl rfl (by rfl)
              exact ⟨by rfl, (fun c => by intro h; cases h), (fun c => by intro h; cases h), by rw [if_neg (by decide)]; go_simp⟩
            | 7, _, hi =>
              obtain rfl := Option.some.inj hi
              have v4 : ac.tmps.getD 59 undef = .slice (some ⟨bn, 0, none⟩) N N := hI9.at hall 4 59 rfl rfl (by rfl)
              have v6 : ac.tmps.getD 61 undef = .int .i64 (ino : Int) := hI9.at hall 6 61 rfl rfl (by rfl)
              exact ⟨by rfl, (fun c => by intro h; cases h), (fun c => by intro h; cases h), by rw [if_neg (by decide)]; go_simp⟩
            | 8, _, hi =>
              obtain rfl := Option.some.inj hi
              have v7 : ac.tmps.getD 62 undef = .pointer (some ⟨bn, ino, none⟩) := hI9.at hall 7 62 rfl rfl (by rfl)
              exact ⟨by rfl, (fun c => by intro h; cases h), (fun c => by intro h; cases h), by rw [if_neg (by decide)]; go_simp⟩
            | 9, _, hi =>
              obtain rfl := Option.some.inj hi
              have v8 : ac.tmps.getD 63 undef = .pointer (some ⟨gi, 0, none⟩) := hI9.at hall 8 63 rfl rfl (by rfl)
              obtain rfl := hwj rfl
              refine ⟨by rfl, (fun c => by intro h; cases h), (fun c => by intro h; cases h), ?_⟩
              rw [if_pos rfl, HWq.out]
              exact run_build1p 83 82 (.tmp 63) rfl (some ⟨gi, 0, none⟩) v8 i0 (.pointer none) Tryz.underlying83 HT.out.1 HT.out.2.1 HT.out.2.2.1
            | k + 10, him, _ => exact absurd him (by omega)
          case hfin =>
            rintro ac hI9
            have v0 : ac.tmps.getD 55 undef = .slice qa q qc := hI9.vals 0 _ 55 rfl rfl rfl
            have v9 : ac.tmps.getD 64 undef = .slice (some ⟨Wx.heap.size, 0, none⟩) 1 1 := hI9.vals 9 _ 64 rfl rfl rfl
            have f6 : ac.tmps.getD 6 undef = .pointer (some ⟨Bx, 0, none⟩) := hI9.fix 6 _ (by simp)
            have hsz : ac.tmps.size = 70 := hI9.sz
            clear hI9
            refine wpAnyIn_ready (rs := [10]) (by kernel_rfl) (by simp) ?_
            refine AllReadyIn.cons rfl (fun K hK => ?_) AllReadyIn.nil
            rw [if_pos (by rfl)]
            have HROWq := hide (show Wq.ownsRow w.heap.size 82 1 (.slice qa q qc) q ((P ++ x :: T' ++ chX pre).map (pvN ps)) from by rw [HWq.out]; exact World.ownsRow.alloc (w := World.drew Wx) HROW.out _)
            refine wpIn_append_ownO Wq (.tmp 55) (.tmp 64) 83 rfl w.heap.size 82 i0 (.pointer none) 1 8 Tryz.underlying83 HT.out.1 HT.out.2.1 HT.out.2.2.1 HT.out.2.2.2 rfl (by decide) _ _ _ v0 HROWq.out ⟨Wx.heap.size, 0, none⟩ 1 1 [.pointer (some ⟨gi, 0, none⟩)] v9 rfl (by rw [HWq.out]; exact cell_one_new _ _ _) (by simp [Value.oneCell']) (by unfold maxLen; omega) (by omega) (by rw [HWq.out, World.size_alloc]; have := HI.out.old.size; exact Nat.le_succ_of_le this) (fun v' w1 hown' hgrow => hK _ _ ?_)
            clear hK K
            obtain ⟨g', cap', rfl⟩ := ownsRow_succ hown'
            have HPG2 := hide (show w1.ownsRow w.heap.size 82 1 (.slice (some ⟨g', 0, none⟩) (q + 1) cap') (q + 1) ((P ++ x :: T' ++ chX pre).map (pvN ps) ++ [pvN ps ino]) from by rw [HPG.out]; exact hown')
            have HPU := hide (RcP.push (W := World.drew Wx) (v' := .slice (some ⟨g', 0, none⟩) (q + 1) cap') (i := ino) (tmp := .cells #[.pointer (some ⟨gi, 0, none⟩)] 82) HI.out.drew HV.out (by rw [← HQ.out]; exact HROW.out) (by rw [← HQ.out]; exact HPG2.out) (by rw [← HWq.out]; exact hgrow))
            have cB1 := HPU.out.2.2.2.1.cell
            have fB1 := HPU.out.2.2.2.1.frozen
            obtain ⟨ac2, hac2⟩ : ∃ ac2, ac2 = ac.put (some 65) (.slice (some ⟨g', 0, none⟩) (q + 1) cap') := ⟨_, rfl⟩
            have k6 : ac2.tmps.getD 6 undef = .pointer (some ⟨Bx, 0, none⟩) := by rw [hac2, getD_put (by omega)]; exact f6
            have k65 : ac2.tmps.getD 65 undef = .slice (some ⟨g', 0, none⟩) (q + 1) cap' := by rw [hac2, getD_put (by omega)]; rfl
            show wpAnyIn _ _ _ _ _ _ _ _ (ac.put (some 65) (.slice (some ⟨g', 0, none⟩) (q + 1) cap')) w1
            rw [← hac2]
            clear hac2 f6 v0 v9 hown' hgrow hsz
            refine wpAnyIn_ready (rs := [11]) (by kernel_rfl) (by simp) ?_
            refine AllReadyIn.cons rfl (fun K hK => ?_) AllReadyIn.nil
            rw [if_pos (by rfl)]
            refine wpIn_runOS (w' := w1.setCell ⟨Bx, 0, none⟩ (.slice (some ⟨g', 0, none⟩) (q + 1) cap')) (fun c => by intro h; cases h) (fun c => by intro h; cases h) (by go_simp) (hK _ _ ?_)
            clear hK K
            refine ⟨by kernel_rfl, ?_⟩
            have hkd : KeepsOthers Wx (World.drew Wx) := ⟨Nat.le_refl _, fun _ _ h _ => h⟩
            exact ⟨(hkd.trans HPU.out.2.1).from _, ⟨((Below.refl _ _).drew).trans HPU.out.2.2.1, (HPU.out.2.2.2.2 (X := X) HXB2.out).trans (Eq.symm HXB2.out)⟩, by rw [HCX.out, ← List.append_assoc]; exact HPU.out.1, HPU.out.2.2.2.2 (X := X) HXB2.out, Nat.le_trans hWs (hkd.trans HPU.out.2.1).size⟩
        case done =>
          rintro D xs W hD hS ⟨hI, hXB, hWs⟩ hK
          have HBN := hide (HBQ.out.next HST.out)
          have HIN := hide (show RcP ps w bs Bx ((P ++ [x]) ++ (T' ++ chE (numE L) x)) (D :: Ds) W from by
            have hxs : xs.map Subtype.val = es := hS
            have hch : chX xs = chE (numE L) x := by
              exact chX_allE xs hxs HEE.out
            rw [hch] at hI
            have e : (P ++ [x]) ++ (T' ++ chE (numE L) x) = P ++ x :: T' ++ chE (numE L) x := by simp
            rw [e]
            have hlt : D < W.heap.size := (Array.getElem?_eq_some_iff.1 hK).1
            refine ⟨hI.box, hI.sb, hI.old, fun D' hD' => ?_, fun D' hD' => ?_, List.nodup_cons.2 ⟨fun h => ?_, hI.nd⟩, hI.bx⟩
            · rcases List.mem_cons.1 hD' with rfl | h
              · exact hK
              · exact hI.mks D' h
            · rcases List.mem_cons.1 hD' with rfl | h
              · exact ⟨Nat.le_trans HIl.out.old.size hD, hlt⟩
              · exact hI.lo D' h
            · have := (HIl.out.lo D h).2
              omega)
          have HLN := hide (show ((P ++ [x]).length : Int) = (at_ : Int) + 1 from by rw [HAT.out]; simp)
          clear hI hXB hK hS
          gi_wp2
          refine ⟨⟨P ++ [x], T' ++ chE (numE L) x, D :: Ds, _, _, _, _, _, _, _, _, _, _, _, _, _, _, _, _, _, _, _, _, _, _, _, _, _, _, _, _, _, _, by rw [HLN.out]; rfl, HBN, HIN⟩, ?_⟩
          simp [intOf]
          simp at hml
          omega
        case stop =>
          rintro D c pre W _ _ h _
          exact h.elim
end Go.Proofs.YtplieplmhdfndaaGreatDoor
