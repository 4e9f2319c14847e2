/- The model's l07Go: from name to name. -/
import Derived.Test.YtplieplmhdfndaaGreatDoorZa46
import Derived.Test.YtplieplmhdfndaaGreatDoorZa22
import Derived.Test.YtplieplmhdfndaaGreatDoorZa31
namespace Go.Proofs.YtplieplmhdfndaaGreatDoor
set_option linter.unusedVariables false
set_option linter.unusedSimpArgs false
open Go.RowKit

/-- l07Go answers goH. -/
def G7 (C : Int) (L : List Nd) (uid gid : Int) (fw : Bool) (h : Nat) (ns : List ByteArray) (cur : Nat) : Prop :=
  ∀ (v : Value) (vs : List Value) (nv : Value) (w : World), RdN w 9 v (L.map ndE) vs → RdO w nv ns →
    Calls Tryz.prog 71 #[.agg #[.int .i64 C, v], .int .i64 uid, .int .i64 gid, .int .i64 (cur : Int), nv, .bool fw, .int .i64 (8 - (h : Int))] w fun e w' => e = .returned (.tuple #[.int .i64 (goH L uid gid fw h ns cur).1, .int .i64 (goH L uid gid fw h ns cur).2]) ∧ Below w.heap.size w w'
set_option maxRecDepth 100000 in
set_option maxHeartbeats 4000000 in
theorem go7_nil (C : Int) (L : List Nd) (uid gid : Int) (fw : Bool) (h cur : Nat) : G7 C L uid gid fw h [] cur := by
  intro v vs nv w hv hn
  obtain ⟨a, cap, rfl, _⟩ := hv.row
  obtain ⟨a2, cap2, rfl, _⟩ := hn
  rw [goH_nil]
  simp only [List.length_nil]
  obtain ⟨N, hN⟩ : ∃ N, N = (L.map ndE).length := ⟨_, rfl⟩
  rw [← hN]
  clear hN hv
  go_enter Tryz.func71, Tryz.ntmps71
  go_wp2
  go_ret2
  exact ⟨rfl, (Below.refl _ _).alloc (Nat.le_refl _) _⟩
theorem run_append_emptyW {P : Program} {w : World} (base : Nat) (t ty e : TypeId) (i : TypeInfo) (size : Nat) (ht : P.underlying t = some (.slice e)) (hi : P.info? e = some i)
    (v : Value) (n : Nat) (xs : List Value) (hown : w.ownsRow base e size v n xs) (a : Option Addr) (c : Nat) :
    (Builtin.append_ #[t, t] ty #[v, .slice a 0 c]).run P w = .ok v w := by
  rcases hown.2 with ⟨rfl, rfl⟩ | ⟨g, cap, cur, rfl, _, _, hnc, _⟩
  · cases a <;> simp [Builtin.append_, run_underlying ht, sizeOf, typeInfo, hi, Builtin.lenOf, Builtin.firstCells, loadCells, loadCellsFrom]
  · cases a <;> simp [Builtin.append_, run_underlying ht, sizeOf, typeInfo, hi, Builtin.lenOf, Builtin.firstCells, hnc, storeCells, loadCells, loadCellsFrom]
/-- Names appended to names of one's own. -/
theorem wp_append_rdO {w : World} {o : Oper} {a : Act} {K : Act → World → Prop} {Q : Exit → Act → World → Prop} (s x : Operand)
    (ho : o.op = .call { callee := .builtin .append, args := #[s, x], argTypes := #[57, 57] })
    (base : Nat) (v : Value) (n : Nat) (xs : List ByteArray) (hs : a.eval s = v) (hown : w.ownsRow base 9 1 v n (xs.map Value.string)) (src : Value) (ns : List ByteArray) (hx : a.eval x = src) (hsrc : RdO w src ns) (hb : n + ns.length ≤ 100000) (hbase : base ≤ w.heap.size)
    (h : ∀ v' w', w'.ownsRow base 9 1 v' (n + ns.length) ((xs ++ ns).map Value.string) → w.grownBy w' v.ownBlock → K (a.put o.dst v') w') : o.wp Tryz.prog a w K Q := by
  obtain ⟨i0, hi, hz0, hz1, hz2⟩ := info_parts infoStr
  obtain ⟨ad, cap, rfl, h1, h2, h3⟩ := hsrc
  rcases Nat.eq_zero_or_pos ns.length with hz | hp
  · have hrun := run_append_emptyW (P := Tryz.prog) (w := w) base 57 o.type 9 i0 1 Tryz.underlying57 hi v n _ hown ad cap
    have hnil : ns = [] := List.length_eq_zero_iff.1 hz
    subst hnil
    unfold Oper.wp
    simp only [List.length_nil] at hx
    simp [execOp, ho, resolve, invoke, builtin, hs, hx, hrun, Result.andThen]
    exact h v w (by simpa using hown) ⟨rfl, rfl, rfl, Nat.le_refl _, fun _ _ _ => rfl⟩
  · obtain ⟨b, off, rfl, hlt, hr⟩ := h3 hp
    refine wp_append_own _ s x 57 ho base 9 i0 (.string ⟨#[]⟩) 1 16 Tryz.underlying57 hi hz0 hz1 hz2 rfl (by decide) v n _ hs hown ⟨b, off, none⟩ ns.length cap (ns.map Value.string) hx (by simp) (fun j u hu => by rw [Addr.add_mid]; exact hr j u hu) (by intro u hu; obtain ⟨y, _, rfl⟩ := List.mem_map.1 hu; rfl) (by unfold maxLen; omega) (by omega) hbase ?_
    intro v' w' ho' hg' _
    exact h v' w' (by rw [List.map_append]; exact ho') hg'
/-- What is known in the midst. -/
structure G7K (C : Int) (L : List Nd) (vs : List Value) (W W' : World) (sq b off N cap : Nat) (r : List ByteArray) (b2 o2 n cap2 : Nat) : Prop where
  st : Blk W' sq #[.int .i64 C, .slice (some ⟨b, off, none⟩) N cap] 29
  nd : RdN W' 9 (.slice (some ⟨b, off, none⟩) N cap) (L.map ndE) vs
  rs : RdO W' (.slice (some ⟨b2, o2, none⟩) n (cap2 - 1)) r
  bel : Below W.heap.size W W'
theorem G7K.below {C : Int} {L : List Nd} {vs : List Value} {W W' W'' : World} {sq b off N cap : Nat} {r : List ByteArray} {b2 o2 n cap2 : Nat} (h : G7K C L vs W W' sq b off N cap r b2 o2 n cap2) (hb : Below W'.heap.size W' W'') : G7K C L vs W W'' sq b off N cap r b2 o2 n cap2 :=
  ⟨h.st.below hb h.st.lt, h.nd.below hb, h.rs.below hb, h.bel.trans (hb.mono h.bel.size)⟩
set_option maxRecDepth 100000 in
set_option maxHeartbeats 8000000 in
theorem go7_cons (C : Int) (L : List Nd) (hR : RightS C L) (hbd : ∀ i, i < L.length → ∀ z ∈ (ndAt L i).d, 0 ≤ z ∧ z < 256) (uid gid : Int) (fw : Bool) (h : Nat) (hh : h ≤ 8) (cur : Nat) (hat : AtN L cur) (nm : ByteArray) (r : List ByteArray) (hlen : r.length + 1 ≤ 400)
    (IH1 : ∀ c, AtN L c → G7 C L uid gid fw h r c) (IH2 : ∀ h' ns c, h = h' + 1 → AtN L c → ns.length ≤ 40 + r.length → G7 C L uid gid fw h' ns c) : G7 C L uid gid fw h (nm :: r) cur := by
  intro v vs nv w hv hn
  obtain ⟨R, hRR⟩ : ∃ R, R = goH L uid gid fw h (nm :: r) cur := ⟨_, rfl⟩
  rw [← hRR]
  have HRR := hide hRR
  clear hRR
  obtain ⟨b, off, cap, a, c, rfl, hb, hr, hu, hrange⟩ := node_at hv hat.2.1
  obtain ⟨b2, off2, cap2, o2, rfl, hc1, hc2, hblt, hcell, ho2, hrO, hrR⟩ := hn.cons
  have hm2 : cap2 ≤ 9223372036854775807 := hc2
  obtain ⟨N, hN⟩ : ∃ N, N = L.length := ⟨_, rfl⟩
  obtain ⟨x, hx⟩ : ∃ x, x = ndAt L cur := ⟨_, rfl⟩
  obtain ⟨q, hq⟩ : ∃ q, q = x.d.length := ⟨_, rfl⟩
  obtain ⟨n, hnn⟩ : ∃ n, n = r.length := ⟨_, rfl⟩
  rw [← hx, ← hq] at hr hrange
  rw [← hN] at hv ⊢
  rw [← hnn] at hlen hc1 hrO ⊢
  have hcN : cur < N := by rw [hN]; exact hat.2.1
  have hNL : N ≤ 1001 := by rw [hN]; exact hR.len.2
  obtain ⟨hp, hhp⟩ : ∃ hp : Int, hp = 8 - (h : Int) := ⟨_, rfl⟩
  rw [← hhp]
  obtain ⟨W1, hW1⟩ : ∃ W1, W1 = w.alloc (.cells #[.int .i64 C, .slice (some ⟨b, off, none⟩) N cap] 29) := ⟨_, rfl⟩
  have b1 : Below w.heap.size w W1 := by rw [hW1]; exact (Below.refl _ _).alloc (Nat.le_refl _) _
  obtain ⟨sq, hsq⟩ : ∃ sq, sq = w.heap.size := ⟨_, rfl⟩
  have k1 : Blk W1 sq #[.int .i64 C, .slice (some ⟨b, off, none⟩) N cap] 29 := by rw [hW1, hsq]; exact Blk.new w _ _
  obtain ⟨W2, hW2⟩ : ∃ W2, W2 = W1.alloc (.cells #[.int .i64 x.k, .int .i64 x.l, .int .i64 x.m, .int .i64 x.u, .int .i64 x.g, .int .i64 x.p, .int .i64 x.e, .int .i64 x.t, .int .i64 x.c, .slice a q c] 56) := ⟨_, rfl⟩
  obtain ⟨dq, hdq⟩ : ∃ dq, dq = W1.heap.size := ⟨_, rfl⟩
  have b2' : Below W1.heap.size W1 W2 := by rw [hW2]; exact (Below.refl _ _).alloc (Nat.le_refl _) _
  have KA := hide (show Blk W2 dq #[.int .i64 x.k, .int .i64 x.l, .int .i64 x.m, .int .i64 x.u, .int .i64 x.g, .int .i64 x.p, .int .i64 x.e, .int .i64 x.t, .int .i64 x.c, .slice a q c] 56 from by rw [hW2, hdq]; exact Blk.new W1 _ _)
  have BW := hide (b1.trans (b2'.mono b1.size))
  have cS := (k1.cell 1).trans (show _ = some (.slice (some ⟨b, off, none⟩) N cap) from rfl)
  have HRG := hide (show W1.rangeAt b (off + cur * 10) [.int .i64 x.k, .int .i64 x.l, .int .i64 x.m, .int .i64 x.u, .int .i64 x.g, .int .i64 x.p, .int .i64 x.e, .int .i64 x.t, .int .i64 x.c, .slice a q c] from fun j u hu => (b1.cell (p := ⟨b, off + cur * 10 + j, none⟩) hb).trans (hrange j u hu))
  have GK := hide (show G7K C L vs w W2 sq b off N cap r b2 o2 n cap2 from ⟨(k1.below b2' k1.lt), (hv.below b1).below b2', (hrO.below b1).below b2', BW.out⟩)
  have HD := hide (And.intro (hr.below BW.out) (And.intro (show ∀ z ∈ x.d, 0 ≤ z ∧ z < 256 from by rw [hx]; exact hbd cur hat.2.1) (And.intro hq (And.intro hx hhp))))
  have hnm := (BW.out.cell (p := ⟨b2, off2, none⟩) hblt).trans hcell
  have HNM := hide hnm
  have HW := hide (And.intro hW1 (And.intro hW2 (And.intro hsq (And.intro hdq (And.intro hN (And.intro hnn ho2))))))
  have HIH := hide (And.intro hR (And.intro hbd (And.intro hh (And.intro hat (And.intro IH1 IH2)))))
  have c0 := (KA.out.cell 0).trans (show _ = some (.int .i64 x.k) from rfl)
  have c5 := (KA.out.cell 5).trans (show _ = some (.int .i64 x.p) from rfl)
  have c9 := (KA.out.cell 9).trans (show _ = some (.slice a q c) from rfl)
  clear hR hbd hh hat IH1 IH2 hv hn hb hr hu hrange hblt hcell ho2 hrO hrR hN hx hq hnn hhp b1 b2' k1 hW1 hW2 hsq hdq hnm
  have hz1 : (((n + 1 : Nat) : Int) == 0) = false := by simp; omega
  go_enter Tryz.func71, Tryz.ntmps71
  go_upto_region 3 with fail
  rw [← HW.out.1, ← HW.out.2.2.1]
  go_upto_region 4 with (refine wpList_load_mid rfl 56 _ rfl b (off + cur * 10) rfl [.int .i64 x.k, .int .i64 x.l, .int .i64 x.m, .int .i64 x.u, .int .i64 x.g, .int .i64 x.p, .int .i64 x.e, .int .i64 x.t, .int .i64 x.c, .slice a q c] _ HRG.out Tryz.underlying56 rfl infoNd ?_)
  rw [← HW.out.2.1, ← HW.out.2.2.2.1]
  by_cases hk : x.k = 2
  rotate_left
  · have hkb : (x.k != 2) = true := by simpa using hk
    have HE := hide (show R = (0, 5) from by
      have he : entC0 (ndAt L cur) uid gid = 5 := by unfold entC0; rw [← HD.out.2.2.2.1, if_pos hk]
      rw [HRR.out, goH_no L uid gid fw h cur nm r (by rw [he]; decide), he])
    clear hk
    go_wp2
    go_ret2
    rw [HE.out]
    exact ⟨rfl, BW.out⟩
  have hkb : (x.k != 2) = false := by simpa using hk
  have HK0 := hide hk
  clear hk
  go_wp2_with (first | (refine wpList_load_row rfl 56 _ rfl dq rfl 56 #[.int .i64 x.k, .int .i64 x.l, .int .i64 x.m, .int .i64 x.u, .int .i64 x.g, .int .i64 x.p, .int .i64 x.e, .int .i64 x.t, .int .i64 x.c, .slice a q c] (0, 0) _ KA.out Tryz.underlying56 rfl infoNd ?_) | (go_at_call 74; fail))
  have HM := specMay_any x.k x.l x.m x.u x.g x.p x.e x.t x.c (.slice a q c) uid gid 1 W2
  unfold nodeV at HM
  refine HM.mono ?_
  clear HM
  rintro e w3 ⟨rfl, b3⟩
  have G3 := hide (GK.out.below b3)
  have KA3 := hide (KA.out.below b3 KA.out.lt)
  have B3 := hide b3
  clear b3
  by_cases hmay : mayB x.m x.u x.g uid gid 1 = true
  rotate_left
  · have hmf : mayB x.m x.u x.g uid gid 1 = false := by simpa using hmay
    have HE := hide (show R = (0, 3) from by
      have he : entC0 (ndAt L cur) uid gid = 3 := by unfold entC0; rw [← HD.out.2.2.2.1, if_neg (by simpa using HK0.out), if_pos hmf]
      rw [HRR.out, goH_no L uid gid fw h cur nm r (by rw [he]; decide), he])
    rw [hmf]
    clear hmay hmf
    go_wp2
    go_ret2
    rw [HE.out]
    exact ⟨rfl, G3.out.bel⟩
  rw [hmay]
  have HE0 := hide (show entC0 (ndAt L cur) uid gid = 0 from by unfold entC0; rw [← HD.out.2.2.2.1, if_neg (by simpa using HK0.out), if_neg (by rw [hmay]; decide)])
  have HK2 := hide (show (ndAt L cur).k = 2 from by rw [← HD.out.2.2.2.1]; exact HK0.out)
  have d0 := (KA3.out.cell 0).trans (show _ = some (.int .i64 x.k) from rfl)
  have d5 := (KA3.out.cell 5).trans (show _ = some (.int .i64 x.p) from rfl)
  have d9 := (KA3.out.cell 9).trans (show _ = some (.slice a q c) from rfl)
  have hnm3 := (B3.out.cell (p := ⟨b2, off2, none⟩) (cell_lt HNM.out)).trans HNM.out
  have ho2 := HW.out.2.2.2.2.2.2
  clear hmay hkb c0 c5 c9 cS
  go_upto_region 9 with fail
  go_upto_region 10 with fail
  by_cases hdot : nm = wkDot
  · subst hdot
    have HGd := hide (show R = goH L uid gid fw h r cur from by rw [HRR.out]; exact goH_dot L uid gid fw h cur r HE0.out)
    unfold wkDot
    go_wp2_with (first | (refine wpList_load_row rfl 29 _ rfl sq rfl 29 #[.int .i64 C, .slice (some ⟨b, off, none⟩) N cap] (0, 0) _ G3.out.st Tryz.underlying29 rfl infoStP ?_) | (go_at_call 71; fail))
    have HI := HIH.out.2.2.2.2.1 cur HIH.out.2.2.2.1 _ vs _ _ G3.out.nd G3.out.rs
    rw [← HD.out.2.2.2.2] at HI
    refine HI.mono ?_
    clear HI
    rintro e w9 ⟨rfl, b9⟩
    have B9 := hide (G3.out.bel.trans (b9.mono G3.out.bel.size))
    clear b9
    go_wp2
    go_ret2
    rw [HGd.out]
    exact ⟨rfl, B9.out⟩
  have hd1 : (nm.toList == [46]) = false := ne_list hdot
  by_cases hup : nm = wkUp
  · subst hup
    obtain ⟨j, hpj, hj1, hj2, hj3⟩ := par_to HIH.out.1 HIH.out.2.2.2.1.1 HIH.out.2.2.2.1.2.1 HK2.out
    rw [HD.out.2.2.2.1, hpj] at d5
    have HGd := hide (show R = goH L uid gid fw h r j from by rw [HRR.out, goH_up L uid gid fw h cur r HE0.out, hpj]; rfl)
    have HAj := hide (show AtN L j from ⟨hj1, hj2, by rw [hj3]; decide⟩)
    unfold wkUp
    clear hpj hj1 hj2 hj3
    go_wp2_with (first | (refine wpList_load_row rfl 29 _ rfl sq rfl 29 #[.int .i64 C, .slice (some ⟨b, off, none⟩) N cap] (0, 0) _ G3.out.st Tryz.underlying29 rfl infoStP ?_) | (go_at_call 71; fail))
    have HI := HIH.out.2.2.2.2.1 j HAj.out _ vs _ _ G3.out.nd G3.out.rs
    rw [← HD.out.2.2.2.2] at HI
    refine HI.mono ?_
    clear HI
    rintro e w9 ⟨rfl, b9⟩
    have B9 := hide (G3.out.bel.trans (b9.mono G3.out.bel.size))
    clear b9
    go_wp2
    go_ret2
    rw [HGd.out]
    exact ⟨rfl, B9.out⟩
  have hd2 : (nm.toList == [46, 46]) = false := ne_list hup
  have hgk := goH_ok L uid gid fw h cur nm r HE0.out
  rw [if_neg hdot, if_neg hup, ← HD.out.2.2.2.1] at hgk
  have HGK := hide hgk
  have hok := HIH.out.1.dirs cur HIH.out.2.2.2.1.2.1 HK2.out
  rw [← HD.out.2.2.2.1] at hok
  have HLn := hide (show x.d.length % 512 = 0 ∧ x.d.length ≤ 262144 from by unfold dirOk at hok; simp only [Bool.and_eq_true, decide_eq_true_eq] at hok; exact ⟨hok.1, hok.2.1⟩)
  clear hdot hup hgk hok
  go_wp2_with (go_at_call 111; fail)
  refine (specAt_any (.slice a q c) x.d nm _ (HD.out.1.below B3.out) HD.out.2.1 HLn.out.2 (by have := HLn.out.1; omega)).mono ?_
  rintro e w4 ⟨rfl, b4⟩
  have G4 := hide (G3.out.below b4)
  have KA4 := hide (KA3.out.below b4 KA3.out.lt)
  have B4 := hide (B3.out.trans (b4.mono B3.out.size))
  clear b4 d0 d5 d9 hnm3
  have d9 := (KA4.out.cell 9).trans (show _ = some (.slice a q c) from rfl)
  cases hf : firstK x.d nm (x.d.length / 32) with
  | none =>
    have hat' : atI x.d nm = -1 := by simp [atI, hf]
    have HE := hide (show R = (0, 2) from by rw [HRR.out, HGK.out]; unfold fiN; rw [hf]; rfl)
    rw [hat']
    clear hf hat'
    go_wp2
    go_ret2
    rw [HE.out]
    exact ⟨rfl, G4.out.bel⟩
  | some k =>
    have hat' : atI x.d nm = (k : Int) := by simp [atI, hf]
    rw [hat']
    have hfl := firstK_lt hf
    obtain ⟨bd, od, ad, cd, ev, hcap, hcapm, hab⟩ := rd_cells (HD.out.1.below B4.out)
    injection ev with ev1 ev2 ev3
    subst ev1 ev3
    have hkl : k * 32 + 32 ≤ x.d.length := by have := hfl.1; omega
    obtain ⟨rfl, hbw, hcell⟩ := hab (by omega)
    have HQ := hide (show sRight (slotK x.d k) = true from by have := hfl.2; unfold atK at this; rw [Bool.and_eq_true] at this; exact this.1)
    have HRk := hide (show Rd .u8 w4 (.slice (some ⟨bd, od + k * 32, none⟩) 32 (c - k * 32)) (slotK x.d k) from Rd.cut (k * 32) 32 hbw (by unfold maxLen; unfold maxLen at hcapm; omega) hcap (fun i hi => hcell i hi) hkl)
    have HL2 := hide (show (slotK x.d k).length = 32 ∧ ∀ z ∈ slotK x.d k, 0 ≤ z ∧ z < 256 from ⟨by unfold slotK; rw [List.length_take, List.length_drop]; omega, fun z hz => HD.out.2.1 z (List.mem_of_mem_drop (List.mem_of_mem_take hz))⟩)
    have HF := hide (show fiN x nm = some (sIno (slotK x.d k), sKind (slotK x.d k)) from by unfold fiN; rw [hf]; rfl)
    rw [Nat.mul_comm k 32] at HRk
    rw [← ev2] at hcap hkl
    have hq26 : q ≤ 262144 := by rw [ev2]; exact HLn.out.2
    have hcm : c ≤ 9223372036854775807 := hcapm
    clear hf hat' hfl hcell hbw ev2 hab hcapm
    go_wp2_with (go_at_call 112; fail)
    refine (entry_any bd (od + 32 * k) (c - 32 * k) (slotK x.d k) _ HRk.out HL2.out.1 HL2.out.2).mono ?_
    rintro e w5 ⟨n3, i3, d3, rfl, hr3, b5⟩
    obtain ⟨rfl, rfl, rfl⟩ := hr3 HQ.out
    rw [HQ.out]
    obtain ⟨ino, hino⟩ : ∃ ino, ino = sIno (slotK x.d k) := ⟨_, rfl⟩
    obtain ⟨kd, hkd⟩ : ∃ kd, kd = sKind (slotK x.d k) := ⟨_, rfl⟩
    rw [← hino, ← hkd] at HF
    rw [← hino, ← hkd]
    obtain ⟨sn, hsn⟩ : ∃ sn, sn = sName (slotK x.d k) := ⟨_, rfl⟩
    rw [← hsn]
    have G5 := hide (G4.out.below b5)
    clear hr3 b5 HRk HL2 G4 KA4 HQ hino hkd hsn d9 hcap hkl
    obtain ⟨⟨fnn, hin⟩, ht1, ht2⟩ := fi_to HIH.out.1 HIH.out.2.2.2.1.2.1 HK2.out (show fiN (ndAt L cur) nm = some (ino, kd) from by rw [← HD.out.2.2.2.1]; exact HF.out)
    have HA := hide (show AtN L ino ∧ (ndAt L ino).k = (kd : Int) from ⟨⟨(entN_kind hin).1.1, ht1, by rw [ht2]; have := (entN_kind hin).2.1; simp only at this; omega⟩, ht2⟩)
    have hgk := HGK.out
    rw [HF.out] at hgk
    simp only at hgk
    have HG2 := hide (HRR.out.trans hgk)
    clear hin ht1 ht2 hgk
    unfold entC
    go_upto_region 18 with fail
    have H6 := hide (show Below w5.heap.size w5 (w5.alloc (.cells #[.string sn, .int .i64 (ino : Int), .int .i64 (kd : Int)] 61)) ∧ Blk (w5.alloc (.cells #[.string sn, .int .i64 (ino : Int), .int .i64 (kd : Int)] 61)) w5.heap.size #[.string sn, .int .i64 (ino : Int), .int .i64 (kd : Int)] 61 from ⟨(Below.refl _ _).alloc (Nat.le_refl _) _, Blk.new _ _ _⟩)
    generalize w5.alloc (.cells #[.string sn, .int .i64 (ino : Int), .int .i64 (kd : Int)] 61) = w6 at H6 ⊢
    obtain ⟨qe, hqe⟩ : ∃ qe, qe = w5.heap.size := ⟨_, rfl⟩
    rw [← hqe]
    have HKE := hide (show Blk w6 qe #[.string sn, .int .i64 (ino : Int), .int .i64 (kd : Int)] 61 from by rw [hqe]; exact H6.out.2)
    have G6 := hide (G5.out.below H6.out.1)
    clear hqe H6 G5 G3 KA3 KA GK B4 B3
    have e1 := (HKE.out.cell 1).trans (show _ = some (Value.int .i64 (ino : Int)) from rfl)
    have e2 := (HKE.out.cell 2).trans (show _ = some (Value.int .i64 (kd : Int)) from rfl)
    by_cases hfl : kd = 3 ∧ (fw = true ∨ 0 < n)
    rotate_left
    · have HGd := hide (show R = goH L uid gid fw h r ino from by
        rw [HG2.out, if_neg]
        intro hc
        refine hfl ⟨hc.1, hc.2.imp id (fun hr => ?_)⟩
        rw [HW.out.2.2.2.2.2.1]
        exact List.length_pos_iff.2 hr)
      by_cases hk3 : kd = 3
      · have hn0 : n = 0 := by
          rcases Nat.eq_zero_or_pos n with h | h
          · exact h
          · exact absurd ⟨hk3, Or.inr h⟩ hfl
        have hf0 : fw = false := by
          cases hfw : fw
          · rfl
          · exact absurd ⟨hk3, Or.inl hfw⟩ hfl
        clear hfl
        subst hn0 hf0 hk3
        go_wp2_with (first | (refine wpList_load_row rfl 29 _ rfl sq rfl 29 #[.int .i64 C, .slice (some ⟨b, off, none⟩) N cap] (0, 0) _ G6.out.st Tryz.underlying29 rfl infoStP ?_) | (go_at_call 71; fail))
        have HI := HIH.out.2.2.2.2.1 ino HA.out.1 _ vs _ _ G6.out.nd G6.out.rs
        rw [← HD.out.2.2.2.2] at HI
        refine HI.mono ?_
        clear HI
        rintro e w9 ⟨rfl, b9⟩
        have B9 := hide (G6.out.bel.trans (b9.mono G6.out.bel.size))
        clear b9
        go_wp2
        go_ret2
        rw [HGd.out]
        exact ⟨rfl, B9.out⟩
      · have hkb : ((kd : Int) != 3) = true := by simp; omega
        clear hfl hk3
        go_wp2_with (first | (refine wpList_load_row rfl 29 _ rfl sq rfl 29 #[.int .i64 C, .slice (some ⟨b, off, none⟩) N cap] (0, 0) _ G6.out.st Tryz.underlying29 rfl infoStP ?_) | (go_at_call 71; fail))
        have HI := HIH.out.2.2.2.2.1 ino HA.out.1 _ vs _ _ G6.out.nd G6.out.rs
        rw [← HD.out.2.2.2.2] at HI
        refine HI.mono ?_
        clear HI
        rintro e w9 ⟨rfl, b9⟩
        have B9 := hide (G6.out.bel.trans (b9.mono G6.out.bel.size))
        clear b9
        go_wp2
        go_ret2
        rw [HGd.out]
        exact ⟨rfl, B9.out⟩
    obtain ⟨hk3, hff⟩ := hfl
    have HNX := hide (show R = nextH L uid gid fw h cur ino r from by
      rw [HG2.out, if_pos]
      refine ⟨hk3, hff.imp id (fun hp => ?_)⟩
      rw [HW.out.2.2.2.2.2.1] at hp
      exact List.length_pos_iff.1 hp)
    have hkl3 : (ndAt L ino).k = 3 := by rw [HA.out.2, hk3]; rfl
    have HLK := hide (link_len HIH.out.1 HA.out.1 hkl3)
    obtain ⟨b', off', cap', at', ct', ev, hb', hr', hu', hrange'⟩ := node_at G6.out.nd HA.out.1.2.1
    injection ev with ev1 ev2 ev3
    injection ev1 with ev1
    injection ev1 with ev1 ev4
    subst ev1 ev4
    obtain ⟨dl, hdl⟩ : ∃ dl, dl = (ndAt L ino).d.length := ⟨_, rfl⟩
    have k9 := hrange' 9 _ rfl
    rw [← hdl] at k9 hr'
    have HDL := hide hdl
    obtain ⟨bt, ot, at2, ct2, ev, hcap, hcapm, hab⟩ := rd_cells hr'
    injection ev with ev1 ev5 ev6
    subst ev1 ev6
    obtain ⟨rfl, hbt, hct⟩ := hab (by have := HLK.out.1; omega)
    have z0 := hct 0 (by have := HLK.out.1; omega)
    rw [Nat.add_zero] at z0
    obtain ⟨zf, hzf⟩ : ∃ zf, zf = (ndAt L ino).d.getD 0 0 := ⟨_, rfl⟩
    rw [← hzf] at z0
    have HZF := hide hzf
    clear hzf
    have hcv := conv_rd hr'
    have cS6 := (G6.out.st.cell 1).trans (show _ = some (.slice (some ⟨b, off, none⟩) N cap) from rfl)
    have hiN : ino < N := by rw [HW.out.2.2.2.2.1]; exact HA.out.1.2.1
    have hdl1 : 1 ≤ dl := by rw [hdl]; exact HLK.out.1
    have hdl2 : dl ≤ 255 := by rw [hdl]; exact HLK.out.2
    have hcm2 : ct' ≤ 9223372036854775807 := hcapm
    have hdc : dl ≤ ct' := by rw [hdl]; exact hcap
    subst hk3
    clear hdl ev2 ev3 ev5 hb' hu' hrange' hab hct hbt hcap hcapm hkl3 hr'
    by_cases hn0 : n = 0
    · have hf1 : fw = true := by rcases hff with h | h
                                 · exact h
                                 · omega
      subst hf1 hn0
      by_cases h0 : h = 0
      · have hb8 : (hp == 8) = true := by rw [HD.out.2.2.2.2, h0]; rfl
        have HE := hide (show R = (0, 14) from by rw [HNX.out, h0]; rfl)
        clear h0
        go_wp2
        go_ret2
        rw [HE.out]
        exact ⟨rfl, G6.out.bel⟩
      obtain ⟨h', hh'⟩ : ∃ h', h = h' + 1 := ⟨h - 1, by omega⟩
      have hb8 : (hp == 8) = false := by rw [HD.out.2.2.2.2]; simp; omega
      have hp0 : 0 ≤ hp := by rw [HD.out.2.2.2.2]; have := HIH.out.2.2.1; omega
      have hp7 : hp ≤ 7 := by rw [HD.out.2.2.2.2]; omega
      have HH := hide hh'
      clear h0 hh'
      go_wp2_with (go_at_call 50; fail)
      obtain ⟨tg, htg⟩ : ∃ tg, tg = strOfNums (ndAt L ino).d := ⟨_, rfl⟩
      rw [← htg]
      have HTG := hide (show tgN L ino = tg from htg.symm)
      have HTS := hide (show tg.size ≤ 255 from by rw [htg, strOfNums_size, ← HDL.out]; exact hdl2)
      clear htg
      refine (specCut_any tg _ (by have := HTS.out; omega)).mono ?_
      rintro e w7 ⟨v7, rfl, o7, b7⟩
      have G7 := hide (G6.out.below b7)
      have O7 := hide o7
      have S7 := hide b7.size
      have z7 := (b7.cell (cell_lt z0)).trans z0
      clear b7 o7 hcv z0 cS6 e1 e2 k9
      have hnl : (Spl.names tg).length ≤ 1000 := by have := Spl.names_len tg; have := HTS.out; omega
      go_wp2_with (go_at_call 51; fail)
      refine (specLong_any v7 (Spl.names tg) _ (RdS.own O7.out) hnl).mono ?_
      rintro e w8 ⟨rfl, rfl⟩
      by_cases hlong : Spl.longN (Spl.names tg) = true
      · rw [hlong]
        have HE := hide (show R = (0, 12) from by rw [HNX.out, HH.out]; show (if Spl.longN (Spl.names (tgN L ino)) = true then _ else _) = _; rw [HTG.out, if_pos hlong])
        clear hlong
        go_wp2
        go_ret2
        rw [HE.out]
        exact ⟨rfl, G7.out.bel⟩
      have hlf : Spl.longN (Spl.names tg) = false := by simpa using hlong
      rw [hlf]
      have HLO := hide (And.intro hlf (long_no hlf).1)
      have HNY := hide (show R = goH L uid gid true h' (Spl.names tg ++ r) (if (ndAt L ino).d[0]? = some 47 then 1 else cur) from by rw [HNX.out, HH.out]; show (if Spl.longN (Spl.names (tgN L ino)) = true then _ else _) = _; rw [HTG.out, if_neg hlong])
      clear hlong hlf
      by_cases hz : zf = 47
      · have hzb : (zf == 47) = true := by simpa using hz
        have HGd := hide (show R = goH L uid gid true h' (Spl.names tg ++ r) 1 from by rw [HNY.out, if_pos]; rw [← hz, HZF.out, List.getD_eq_getElem?_getD]; rw [List.getElem?_eq_getElem (by have := HLK.out.1; omega)]; rfl)
        clear hz
        go_upto_region 29 with fail
        refine wp_region_noPanic ?_
        refine wp_region_held_drew (S := fun w' => Blk w' sq #[.int .i64 C, .slice (some ⟨b, off, none⟩) N cap] 29) (by kernel_rfl) G7.out.st (fun hH => ?_)
        refine wpAnyH_take (i := 0) (oi := _) (v := .agg #[.int .i64 C, .slice (some ⟨b, off, none⟩) N cap]) rfl (by kernel_rfl) (by kernel_rfl) (by kernel_rfl) (fun _ _ _ h => h) (yieldsIf_load_mid (by rfl) 29 _ rfl sq 0 rfl (#[.int .i64 C, .slice (some ⟨b, off, none⟩) N cap]).toList _ (fun w' h => blk_range h) Tryz.underlying29 rfl infoStP) hH ?_
        try simp only [Act.put, List.getElem_toArray, List.getElem_cons_zero, List.getElem_cons_succ, List.setIfInBounds_toArray, List.set_cons_zero, List.set_cons_succ]
        refine wpAnyH_take (i := 1) (oi := _) (v := .int .i64 uid) rfl (by kernel_rfl) (by kernel_rfl) (by kernel_rfl) (fun _ _ _ h => h) (Or.inl ⟨by rfl, fun w' hw' => by go_simp⟩) hH ?_
        try simp only [Act.put, List.getElem_toArray, List.getElem_cons_zero, List.getElem_cons_succ, List.setIfInBounds_toArray, List.set_cons_zero, List.set_cons_succ]
        refine wpAnyH_take (i := 2) (oi := _) (v := .int .i64 gid) rfl (by kernel_rfl) (by kernel_rfl) (by kernel_rfl) (fun _ _ _ h => h) (Or.inl ⟨by rfl, fun w' hw' => by go_simp⟩) hH ?_
        try simp only [Act.put, List.getElem_toArray, List.getElem_cons_zero, List.getElem_cons_succ, List.setIfInBounds_toArray, List.set_cons_zero, List.set_cons_succ]
        refine wpAnyH_take (i := 3) (oi := _) (v := .int .i64 1) rfl (by kernel_rfl) (by kernel_rfl) (by kernel_rfl) (fun _ _ _ h => h) (Or.inl ⟨by rfl, fun w' hw' => by go_simp⟩) hH ?_
        try simp only [Act.put, List.getElem_toArray, List.getElem_cons_zero, List.getElem_cons_succ, List.setIfInBounds_toArray, List.set_cons_zero, List.set_cons_succ]
        refine wpAnyH_take (i := 5) (oi := _) (v := v7) rfl (by kernel_rfl) (by kernel_rfl) (by kernel_rfl) (fun _ _ _ h => h) (Or.inl ⟨by rfl, fun w' hw' => by go_simp⟩) hH ?_
        try simp only [Act.put, List.getElem_toArray, List.getElem_cons_zero, List.getElem_cons_succ, List.setIfInBounds_toArray, List.set_cons_zero, List.set_cons_succ]
        refine wpAnyH_take (i := 7) (oi := _) (v := .slice (some ⟨b2, o2, none⟩) 0 (cap2 - 1)) rfl (by kernel_rfl) (by kernel_rfl) (by kernel_rfl) (fun _ _ _ h => h) (Or.inl ⟨by rfl, fun w' hw' => by go_simp⟩) hH ?_
        try simp only [Act.put, List.getElem_toArray, List.getElem_cons_zero, List.getElem_cons_succ, List.setIfInBounds_toArray, List.set_cons_zero, List.set_cons_succ]
        refine wpAnyH_take (i := 9) (oi := _) (v := .bool true) rfl (by kernel_rfl) (by kernel_rfl) (by kernel_rfl) (fun _ _ _ h => h) (Or.inl ⟨by rfl, fun w' hw' => by go_simp⟩) hH ?_
        try simp only [Act.put, List.getElem_toArray, List.getElem_cons_zero, List.getElem_cons_succ, List.setIfInBounds_toArray, List.set_cons_zero, List.set_cons_succ]
        refine wpAnyH_take (i := 10) (oi := _) (v := .int .i64 hp) rfl (by kernel_rfl) (by kernel_rfl) (by kernel_rfl) (fun _ _ _ h => h) (Or.inl ⟨by rfl, fun w' hw' => by go_simp⟩) hH ?_
        try simp only [Act.put, List.getElem_toArray, List.getElem_cons_zero, List.getElem_cons_succ, List.setIfInBounds_toArray, List.set_cons_zero, List.set_cons_succ]
        refine wpAnyH_take (i := 11) (oi := _) (v := .int .i64 (hp + 1)) rfl (by kernel_rfl) (by kernel_rfl) (by kernel_rfl) (fun _ _ _ h => h) (Or.inl ⟨by rfl, fun w' hw' => by go_simp; rw [IntKind.wrap_i64]; omega⟩) hH ?_
        try simp only [Act.put, List.getElem_toArray, List.getElem_cons_zero, List.getElem_cons_succ, List.setIfInBounds_toArray, List.set_cons_zero, List.set_cons_succ]
        have GD := hide (G7.out.below (Below.refl _ _).drew)
        have OD := hide (own_below O7.out (Below.refl _ _).drew)
        have BA := hide (show Below w8.drew.heap.size w8.drew (w8.drew.alloc (.cells #[] 9)) from (Below.refl _ _).alloc (Nat.le_refl _) _)
        have OE := hide (empty_ownS w8.drew 9)
        refine wpAnyH_ready (rs := [4]) (by kernel_rfl) (by simp) ?_
        refine AllReadyH.cons (o := _) rfl (fun K hK => ?_) AllReadyH.nil
        go_simp
        refine hK.out _ _ (GD.out.below BA.out).st (fun hH => ?_)
        clear hK K
        try simp only [Act.put, List.getElem_toArray, List.getElem_cons_zero, List.getElem_cons_succ, List.setIfInBounds_toArray, List.set_cons_zero, List.set_cons_succ]
        refine wpAnyH_ready (rs := [6]) (by kernel_rfl) (by simp) ?_
        refine AllReadyH.cons (o := _) rfl (fun K hK => ?_) AllReadyH.nil
        rw [if_pos (by rfl)]
        refine wp_append_rdO (.tmp 136) (.tmp 137) rfl w8.drew.heap.size _ 0 [] rfl OE.out v7 (Spl.names tg) rfl ((RdO.own OD.out).below BA.out) (by have := HLO.out.2; omega) BA.out.size ?_
        intro v9 w9 o9 g9
        have B9 := hide (BA.out.grown g9 BA.out.size (fun k hk => (OE.out.lt k hk).1))
        have O9 := hide o9
        clear o9 g9
        refine hK.out _ _ (GD.out.below B9.out).st (fun hH => ?_)
        clear hK K
        try simp only [Act.put, List.getElem_toArray, List.getElem_cons_zero, List.getElem_cons_succ, List.setIfInBounds_toArray, List.set_cons_zero, List.set_cons_succ]
        refine wpAnyH_ready (rs := [8]) (by kernel_rfl) (by simp) ?_
        refine AllReadyH.cons (o := _) rfl (fun K hK => ?_) AllReadyH.nil
        rw [if_pos (by rfl)]
        refine wp_append_rdO (.tmp 138) (.tmp 139) rfl w8.drew.heap.size _ _ _ rfl O9.out _ r rfl (GD.out.below B9.out).rs (by have h1 := HLO.out.2; have h2 := HW.out.2.2.2.2.2.1; omega) B9.out.size ?_
        intro v10 w10 o10 g10
        have B10 := hide (B9.out.grown g10 B9.out.size (fun k hk => (O9.out.lt k hk).1))
        have O10 := hide (RdO.own o10)
        clear o10 g10
        refine hK.out _ _ (GD.out.below B10.out).st (fun hH => ?_)
        clear hK K
        try simp only [Act.put, List.getElem_toArray, List.getElem_cons_zero, List.getElem_cons_succ, List.setIfInBounds_toArray, List.set_cons_zero, List.set_cons_succ]
        refine wpAnyH_ready (rs := [12]) (by kernel_rfl) (by simp) ?_
        refine AllReadyH.cons (o := _) rfl (fun K hK => ?_) AllReadyH.nil
        go_simp
        have HI := HIH.out.2.2.2.2.2 h' (Spl.names tg ++ r) 1 HH.out (AtN.root HIH.out.1) (by have h1 := HLO.out.2; rw [List.length_append]; omega) _ vs v10 w10 (GD.out.below B10.out).nd (by simpa using O10.out)
        rw [show (8 : Int) - (h' : Int) = hp + 1 from by rw [HD.out.2.2.2.2, HH.out]; omega] at HI
        refine HI.mono ?_
        clear HI
        rintro e w11 ⟨rfl, b11⟩
        have B11 := hide (B10.out.trans (b11.mono B10.out.size))
        clear b11
        rw [← HGd.out]
        refine hK.out _ _ (GD.out.below B11.out).st (fun hH => ?_)
        clear hK K
        try simp only [Act.put, List.getElem_toArray, List.getElem_cons_zero, List.getElem_cons_succ, List.setIfInBounds_toArray, List.set_cons_zero, List.set_cons_succ]
        refine wpAnyH_take (i := 13) (oi := _) (v := .int .i64 R.1) rfl (by kernel_rfl) (by kernel_rfl) (by kernel_rfl) (fun _ _ _ h => h) (Or.inl ⟨by rfl, fun w' hw' => by go_simp⟩) hH ?_
        try simp only [Act.put, List.getElem_toArray, List.getElem_cons_zero, List.getElem_cons_succ, List.setIfInBounds_toArray, List.set_cons_zero, List.set_cons_succ]
        refine wpAnyH_take (i := 14) (oi := _) (v := .int .i64 R.2) rfl (by kernel_rfl) (by kernel_rfl) (by kernel_rfl) (fun _ _ _ h => h) (Or.inl ⟨by rfl, fun w' hw' => by go_simp⟩) hH ?_
        try simp only [Act.put, List.getElem_toArray, List.getElem_cons_zero, List.getElem_cons_succ, List.setIfInBounds_toArray, List.set_cons_zero, List.set_cons_succ]
        refine wpAnyH_take (i := 15) (oi := _) (v := .int .i64 R.1) rfl (by kernel_rfl) (by kernel_rfl) (by kernel_rfl) (fun _ _ _ h => h) (Or.inl ⟨by rfl, fun w' hw' => by go_simp⟩) hH ?_
        try simp only [Act.put, List.getElem_toArray, List.getElem_cons_zero, List.getElem_cons_succ, List.setIfInBounds_toArray, List.set_cons_zero, List.set_cons_succ]
        refine wpAnyH_take (i := 16) (oi := _) (v := .int .i64 R.2) rfl (by kernel_rfl) (by kernel_rfl) (by kernel_rfl) (fun _ _ _ h => h) (Or.inl ⟨by rfl, fun w' hw' => by go_simp⟩) hH ?_
        try simp only [Act.put, List.getElem_toArray, List.getElem_cons_zero, List.getElem_cons_succ, List.setIfInBounds_toArray, List.set_cons_zero, List.set_cons_succ]
        refine wpAnyH_done (by kernel_rfl) (NoPanic.normal ?_) _
        clear hH
        have BF := hide (GD.out.below B11.out).bel
        clear B9 B10 B11 O9 O10 OE OD BA GD
        go_wp2
        go_ret2
        exact ⟨rfl, BF.out⟩

      · have hzb : (zf == 47) = false := by simpa using hz
        have HGd := hide (show R = goH L uid gid true h' (Spl.names tg ++ r) cur from by rw [HNY.out, if_neg]; intro e9; apply hz; rw [HZF.out, List.getD_eq_getElem?_getD, e9]; rfl)
        clear hz
        go_upto_region 29 with fail
        refine wp_region_noPanic ?_
        refine wp_region_held_drew (S := fun w' => Blk w' sq #[.int .i64 C, .slice (some ⟨b, off, none⟩) N cap] 29) (by kernel_rfl) G7.out.st (fun hH => ?_)
        refine wpAnyH_take (i := 0) (oi := _) (v := .agg #[.int .i64 C, .slice (some ⟨b, off, none⟩) N cap]) rfl (by kernel_rfl) (by kernel_rfl) (by kernel_rfl) (fun _ _ _ h => h) (yieldsIf_load_mid (by rfl) 29 _ rfl sq 0 rfl (#[.int .i64 C, .slice (some ⟨b, off, none⟩) N cap]).toList _ (fun w' h => blk_range h) Tryz.underlying29 rfl infoStP) hH ?_
        try simp only [Act.put, List.getElem_toArray, List.getElem_cons_zero, List.getElem_cons_succ, List.setIfInBounds_toArray, List.set_cons_zero, List.set_cons_succ]
        refine wpAnyH_take (i := 1) (oi := _) (v := .int .i64 uid) rfl (by kernel_rfl) (by kernel_rfl) (by kernel_rfl) (fun _ _ _ h => h) (Or.inl ⟨by rfl, fun w' hw' => by go_simp⟩) hH ?_
        try simp only [Act.put, List.getElem_toArray, List.getElem_cons_zero, List.getElem_cons_succ, List.setIfInBounds_toArray, List.set_cons_zero, List.set_cons_succ]
        refine wpAnyH_take (i := 2) (oi := _) (v := .int .i64 gid) rfl (by kernel_rfl) (by kernel_rfl) (by kernel_rfl) (fun _ _ _ h => h) (Or.inl ⟨by rfl, fun w' hw' => by go_simp⟩) hH ?_
        try simp only [Act.put, List.getElem_toArray, List.getElem_cons_zero, List.getElem_cons_succ, List.setIfInBounds_toArray, List.set_cons_zero, List.set_cons_succ]
        refine wpAnyH_take (i := 3) (oi := _) (v := .int .i64 (cur : Int)) rfl (by kernel_rfl) (by kernel_rfl) (by kernel_rfl) (fun _ _ _ h => h) (Or.inl ⟨by rfl, fun w' hw' => by go_simp⟩) hH ?_
        try simp only [Act.put, List.getElem_toArray, List.getElem_cons_zero, List.getElem_cons_succ, List.setIfInBounds_toArray, List.set_cons_zero, List.set_cons_succ]
        refine wpAnyH_take (i := 5) (oi := _) (v := v7) rfl (by kernel_rfl) (by kernel_rfl) (by kernel_rfl) (fun _ _ _ h => h) (Or.inl ⟨by rfl, fun w' hw' => by go_simp⟩) hH ?_
        try simp only [Act.put, List.getElem_toArray, List.getElem_cons_zero, List.getElem_cons_succ, List.setIfInBounds_toArray, List.set_cons_zero, List.set_cons_succ]
        refine wpAnyH_take (i := 7) (oi := _) (v := .slice (some ⟨b2, o2, none⟩) 0 (cap2 - 1)) rfl (by kernel_rfl) (by kernel_rfl) (by kernel_rfl) (fun _ _ _ h => h) (Or.inl ⟨by rfl, fun w' hw' => by go_simp⟩) hH ?_
        try simp only [Act.put, List.getElem_toArray, List.getElem_cons_zero, List.getElem_cons_succ, List.setIfInBounds_toArray, List.set_cons_zero, List.set_cons_succ]
        refine wpAnyH_take (i := 9) (oi := _) (v := .bool true) rfl (by kernel_rfl) (by kernel_rfl) (by kernel_rfl) (fun _ _ _ h => h) (Or.inl ⟨by rfl, fun w' hw' => by go_simp⟩) hH ?_
        try simp only [Act.put, List.getElem_toArray, List.getElem_cons_zero, List.getElem_cons_succ, List.setIfInBounds_toArray, List.set_cons_zero, List.set_cons_succ]
        refine wpAnyH_take (i := 10) (oi := _) (v := .int .i64 hp) rfl (by kernel_rfl) (by kernel_rfl) (by kernel_rfl) (fun _ _ _ h => h) (Or.inl ⟨by rfl, fun w' hw' => by go_simp⟩) hH ?_
        try simp only [Act.put, List.getElem_toArray, List.getElem_cons_zero, List.getElem_cons_succ, List.setIfInBounds_toArray, List.set_cons_zero, List.set_cons_succ]
        refine wpAnyH_take (i := 11) (oi := _) (v := .int .i64 (hp + 1)) rfl (by kernel_rfl) (by kernel_rfl) (by kernel_rfl) (fun _ _ _ h => h) (Or.inl ⟨by rfl, fun w' hw' => by go_simp; rw [IntKind.wrap_i64]; omega⟩) hH ?_
        try simp only [Act.put, List.getElem_toArray, List.getElem_cons_zero, List.getElem_cons_succ, List.setIfInBounds_toArray, List.set_cons_zero, List.set_cons_succ]
        have GD := hide (G7.out.below (Below.refl _ _).drew)
        have OD := hide (own_below O7.out (Below.refl _ _).drew)
        have BA := hide (show Below w8.drew.heap.size w8.drew (w8.drew.alloc (.cells #[] 9)) from (Below.refl _ _).alloc (Nat.le_refl _) _)
        have OE := hide (empty_ownS w8.drew 9)
        refine wpAnyH_ready (rs := [4]) (by kernel_rfl) (by simp) ?_
        refine AllReadyH.cons (o := _) rfl (fun K hK => ?_) AllReadyH.nil
        go_simp
        refine hK.out _ _ (GD.out.below BA.out).st (fun hH => ?_)
        clear hK K
        try simp only [Act.put, List.getElem_toArray, List.getElem_cons_zero, List.getElem_cons_succ, List.setIfInBounds_toArray, List.set_cons_zero, List.set_cons_succ]
        refine wpAnyH_ready (rs := [6]) (by kernel_rfl) (by simp) ?_
        refine AllReadyH.cons (o := _) rfl (fun K hK => ?_) AllReadyH.nil
        rw [if_pos (by rfl)]
        refine wp_append_rdO (.tmp 136) (.tmp 137) rfl w8.drew.heap.size _ 0 [] rfl OE.out v7 (Spl.names tg) rfl ((RdO.own OD.out).below BA.out) (by have := HLO.out.2; omega) BA.out.size ?_
        intro v9 w9 o9 g9
        have B9 := hide (BA.out.grown g9 BA.out.size (fun k hk => (OE.out.lt k hk).1))
        have O9 := hide o9
        clear o9 g9
        refine hK.out _ _ (GD.out.below B9.out).st (fun hH => ?_)
        clear hK K
        try simp only [Act.put, List.getElem_toArray, List.getElem_cons_zero, List.getElem_cons_succ, List.setIfInBounds_toArray, List.set_cons_zero, List.set_cons_succ]
        refine wpAnyH_ready (rs := [8]) (by kernel_rfl) (by simp) ?_
        refine AllReadyH.cons (o := _) rfl (fun K hK => ?_) AllReadyH.nil
        rw [if_pos (by rfl)]
        refine wp_append_rdO (.tmp 138) (.tmp 139) rfl w8.drew.heap.size _ _ _ rfl O9.out _ r rfl (GD.out.below B9.out).rs (by have h1 := HLO.out.2; have h2 := HW.out.2.2.2.2.2.1; omega) B9.out.size ?_
        intro v10 w10 o10 g10
        have B10 := hide (B9.out.grown g10 B9.out.size (fun k hk => (O9.out.lt k hk).1))
        have O10 := hide (RdO.own o10)
        clear o10 g10
        refine hK.out _ _ (GD.out.below B10.out).st (fun hH => ?_)
        clear hK K
        try simp only [Act.put, List.getElem_toArray, List.getElem_cons_zero, List.getElem_cons_succ, List.setIfInBounds_toArray, List.set_cons_zero, List.set_cons_succ]
        refine wpAnyH_ready (rs := [12]) (by kernel_rfl) (by simp) ?_
        refine AllReadyH.cons (o := _) rfl (fun K hK => ?_) AllReadyH.nil
        go_simp
        have HI := HIH.out.2.2.2.2.2 h' (Spl.names tg ++ r) cur HH.out HIH.out.2.2.2.1 (by have h1 := HLO.out.2; rw [List.length_append]; omega) _ vs v10 w10 (GD.out.below B10.out).nd (by simpa using O10.out)
        rw [show (8 : Int) - (h' : Int) = hp + 1 from by rw [HD.out.2.2.2.2, HH.out]; omega] at HI
        refine HI.mono ?_
        clear HI
        rintro e w11 ⟨rfl, b11⟩
        have B11 := hide (B10.out.trans (b11.mono B10.out.size))
        clear b11
        rw [← HGd.out]
        refine hK.out _ _ (GD.out.below B11.out).st (fun hH => ?_)
        clear hK K
        try simp only [Act.put, List.getElem_toArray, List.getElem_cons_zero, List.getElem_cons_succ, List.setIfInBounds_toArray, List.set_cons_zero, List.set_cons_succ]
        refine wpAnyH_take (i := 13) (oi := _) (v := .int .i64 R.1) rfl (by kernel_rfl) (by kernel_rfl) (by kernel_rfl) (fun _ _ _ h => h) (Or.inl ⟨by rfl, fun w' hw' => by go_simp⟩) hH ?_
        try simp only [Act.put, List.getElem_toArray, List.getElem_cons_zero, List.getElem_cons_succ, List.setIfInBounds_toArray, List.set_cons_zero, List.set_cons_succ]
        refine wpAnyH_take (i := 14) (oi := _) (v := .int .i64 R.2) rfl (by kernel_rfl) (by kernel_rfl) (by kernel_rfl) (fun _ _ _ h => h) (Or.inl ⟨by rfl, fun w' hw' => by go_simp⟩) hH ?_
        try simp only [Act.put, List.getElem_toArray, List.getElem_cons_zero, List.getElem_cons_succ, List.setIfInBounds_toArray, List.set_cons_zero, List.set_cons_succ]
        refine wpAnyH_take (i := 15) (oi := _) (v := .int .i64 R.1) rfl (by kernel_rfl) (by kernel_rfl) (by kernel_rfl) (fun _ _ _ h => h) (Or.inl ⟨by rfl, fun w' hw' => by go_simp⟩) hH ?_
        try simp only [Act.put, List.getElem_toArray, List.getElem_cons_zero, List.getElem_cons_succ, List.setIfInBounds_toArray, List.set_cons_zero, List.set_cons_succ]
        refine wpAnyH_take (i := 16) (oi := _) (v := .int .i64 R.2) rfl (by kernel_rfl) (by kernel_rfl) (by kernel_rfl) (fun _ _ _ h => h) (Or.inl ⟨by rfl, fun w' hw' => by go_simp⟩) hH ?_
        try simp only [Act.put, List.getElem_toArray, List.getElem_cons_zero, List.getElem_cons_succ, List.setIfInBounds_toArray, List.set_cons_zero, List.set_cons_succ]
        refine wpAnyH_done (by kernel_rfl) (NoPanic.normal ?_) _
        clear hH
        have BF := hide (GD.out.below B11.out).bel
        clear B9 B10 B11 O9 O10 OE OD BA GD
        go_wp2
        go_ret2
        exact ⟨rfl, BF.out⟩
    have hn1 : ((n : Int) == 0) = false := by simp; omega
    clear hff hn0
    cases fw
    · by_cases h0 : h = 0
      · have hb8 : (hp == 8) = true := by rw [HD.out.2.2.2.2, h0]; rfl
        have HE := hide (show R = (0, 14) from by rw [HNX.out, h0]; rfl)
        clear h0
        go_wp2
        go_ret2
        rw [HE.out]
        exact ⟨rfl, G6.out.bel⟩
      obtain ⟨h', hh'⟩ : ∃ h', h = h' + 1 := ⟨h - 1, by omega⟩
      have hb8 : (hp == 8) = false := by rw [HD.out.2.2.2.2]; simp; omega
      have hp0 : 0 ≤ hp := by rw [HD.out.2.2.2.2]; have := HIH.out.2.2.1; omega
      have hp7 : hp ≤ 7 := by rw [HD.out.2.2.2.2]; omega
      have HH := hide hh'
      clear h0 hh'
      go_wp2_with (go_at_call 50; fail)
      obtain ⟨tg, htg⟩ : ∃ tg, tg = strOfNums (ndAt L ino).d := ⟨_, rfl⟩
      rw [← htg]
      have HTG := hide (show tgN L ino = tg from htg.symm)
      have HTS := hide (show tg.size ≤ 255 from by rw [htg, strOfNums_size, ← HDL.out]; exact hdl2)
      clear htg
      refine (specCut_any tg _ (by have := HTS.out; omega)).mono ?_
      rintro e w7 ⟨v7, rfl, o7, b7⟩
      have G7 := hide (G6.out.below b7)
      have O7 := hide o7
      have S7 := hide b7.size
      have z7 := (b7.cell (cell_lt z0)).trans z0
      clear b7 o7 hcv z0 cS6 e1 e2 k9
      have hnl : (Spl.names tg).length ≤ 1000 := by have := Spl.names_len tg; have := HTS.out; omega
      go_wp2_with (go_at_call 51; fail)
      refine (specLong_any v7 (Spl.names tg) _ (RdS.own O7.out) hnl).mono ?_
      rintro e w8 ⟨rfl, rfl⟩
      by_cases hlong : Spl.longN (Spl.names tg) = true
      · rw [hlong]
        have HE := hide (show R = (0, 12) from by rw [HNX.out, HH.out]; show (if Spl.longN (Spl.names (tgN L ino)) = true then _ else _) = _; rw [HTG.out, if_pos hlong])
        clear hlong
        go_wp2
        go_ret2
        rw [HE.out]
        exact ⟨rfl, G7.out.bel⟩
      have hlf : Spl.longN (Spl.names tg) = false := by simpa using hlong
      rw [hlf]
      have HLO := hide (And.intro hlf (long_no hlf).1)
      have HNY := hide (show R = goH L uid gid false h' (Spl.names tg ++ r) (if (ndAt L ino).d[0]? = some 47 then 1 else cur) from by rw [HNX.out, HH.out]; show (if Spl.longN (Spl.names (tgN L ino)) = true then _ else _) = _; rw [HTG.out, if_neg hlong])
      clear hlong hlf
      by_cases hz : zf = 47
      · have hzb : (zf == 47) = true := by simpa using hz
        have HGd := hide (show R = goH L uid gid false h' (Spl.names tg ++ r) 1 from by rw [HNY.out, if_pos]; rw [← hz, HZF.out, List.getD_eq_getElem?_getD]; rw [List.getElem?_eq_getElem (by have := HLK.out.1; omega)]; rfl)
        clear hz
        go_upto_region 29 with fail
        refine wp_region_noPanic ?_
        refine wp_region_held_drew (S := fun w' => Blk w' sq #[.int .i64 C, .slice (some ⟨b, off, none⟩) N cap] 29) (by kernel_rfl) G7.out.st (fun hH => ?_)
        refine wpAnyH_take (i := 0) (oi := _) (v := .agg #[.int .i64 C, .slice (some ⟨b, off, none⟩) N cap]) rfl (by kernel_rfl) (by kernel_rfl) (by kernel_rfl) (fun _ _ _ h => h) (yieldsIf_load_mid (by rfl) 29 _ rfl sq 0 rfl (#[.int .i64 C, .slice (some ⟨b, off, none⟩) N cap]).toList _ (fun w' h => blk_range h) Tryz.underlying29 rfl infoStP) hH ?_
        try simp only [Act.put, List.getElem_toArray, List.getElem_cons_zero, List.getElem_cons_succ, List.setIfInBounds_toArray, List.set_cons_zero, List.set_cons_succ]
        refine wpAnyH_take (i := 1) (oi := _) (v := .int .i64 uid) rfl (by kernel_rfl) (by kernel_rfl) (by kernel_rfl) (fun _ _ _ h => h) (Or.inl ⟨by rfl, fun w' hw' => by go_simp⟩) hH ?_
        try simp only [Act.put, List.getElem_toArray, List.getElem_cons_zero, List.getElem_cons_succ, List.setIfInBounds_toArray, List.set_cons_zero, List.set_cons_succ]
        refine wpAnyH_take (i := 2) (oi := _) (v := .int .i64 gid) rfl (by kernel_rfl) (by kernel_rfl) (by kernel_rfl) (fun _ _ _ h => h) (Or.inl ⟨by rfl, fun w' hw' => by go_simp⟩) hH ?_
        try simp only [Act.put, List.getElem_toArray, List.getElem_cons_zero, List.getElem_cons_succ, List.setIfInBounds_toArray, List.set_cons_zero, List.set_cons_succ]
        refine wpAnyH_take (i := 3) (oi := _) (v := .int .i64 1) rfl (by kernel_rfl) (by kernel_rfl) (by kernel_rfl) (fun _ _ _ h => h) (Or.inl ⟨by rfl, fun w' hw' => by go_simp⟩) hH ?_
        try simp only [Act.put, List.getElem_toArray, List.getElem_cons_zero, List.getElem_cons_succ, List.setIfInBounds_toArray, List.set_cons_zero, List.set_cons_succ]
        refine wpAnyH_take (i := 5) (oi := _) (v := v7) rfl (by kernel_rfl) (by kernel_rfl) (by kernel_rfl) (fun _ _ _ h => h) (Or.inl ⟨by rfl, fun w' hw' => by go_simp⟩) hH ?_
        try simp only [Act.put, List.getElem_toArray, List.getElem_cons_zero, List.getElem_cons_succ, List.setIfInBounds_toArray, List.set_cons_zero, List.set_cons_succ]
        refine wpAnyH_take (i := 7) (oi := _) (v := .slice (some ⟨b2, o2, none⟩) n (cap2 - 1)) rfl (by kernel_rfl) (by kernel_rfl) (by kernel_rfl) (fun _ _ _ h => h) (Or.inl ⟨by rfl, fun w' hw' => by go_simp⟩) hH ?_
        try simp only [Act.put, List.getElem_toArray, List.getElem_cons_zero, List.getElem_cons_succ, List.setIfInBounds_toArray, List.set_cons_zero, List.set_cons_succ]
        refine wpAnyH_take (i := 9) (oi := _) (v := .bool false) rfl (by kernel_rfl) (by kernel_rfl) (by kernel_rfl) (fun _ _ _ h => h) (Or.inl ⟨by rfl, fun w' hw' => by go_simp⟩) hH ?_
        try simp only [Act.put, List.getElem_toArray, List.getElem_cons_zero, List.getElem_cons_succ, List.setIfInBounds_toArray, List.set_cons_zero, List.set_cons_succ]
        refine wpAnyH_take (i := 10) (oi := _) (v := .int .i64 hp) rfl (by kernel_rfl) (by kernel_rfl) (by kernel_rfl) (fun _ _ _ h => h) (Or.inl ⟨by rfl, fun w' hw' => by go_simp⟩) hH ?_
        try simp only [Act.put, List.getElem_toArray, List.getElem_cons_zero, List.getElem_cons_succ, List.setIfInBounds_toArray, List.set_cons_zero, List.set_cons_succ]
        refine wpAnyH_take (i := 11) (oi := _) (v := .int .i64 (hp + 1)) rfl (by kernel_rfl) (by kernel_rfl) (by kernel_rfl) (fun _ _ _ h => h) (Or.inl ⟨by rfl, fun w' hw' => by go_simp; rw [IntKind.wrap_i64]; omega⟩) hH ?_
        try simp only [Act.put, List.getElem_toArray, List.getElem_cons_zero, List.getElem_cons_succ, List.setIfInBounds_toArray, List.set_cons_zero, List.set_cons_succ]
        have GD := hide (G7.out.below (Below.refl _ _).drew)
        have OD := hide (own_below O7.out (Below.refl _ _).drew)
        have BA := hide (show Below w8.drew.heap.size w8.drew (w8.drew.alloc (.cells #[] 9)) from (Below.refl _ _).alloc (Nat.le_refl _) _)
        have OE := hide (empty_ownS w8.drew 9)
        refine wpAnyH_ready (rs := [4]) (by kernel_rfl) (by simp) ?_
        refine AllReadyH.cons (o := _) rfl (fun K hK => ?_) AllReadyH.nil
        go_simp
        refine hK.out _ _ (GD.out.below BA.out).st (fun hH => ?_)
        clear hK K
        try simp only [Act.put, List.getElem_toArray, List.getElem_cons_zero, List.getElem_cons_succ, List.setIfInBounds_toArray, List.set_cons_zero, List.set_cons_succ]
        refine wpAnyH_ready (rs := [6]) (by kernel_rfl) (by simp) ?_
        refine AllReadyH.cons (o := _) rfl (fun K hK => ?_) AllReadyH.nil
        rw [if_pos (by rfl)]
        refine wp_append_rdO (.tmp 136) (.tmp 137) rfl w8.drew.heap.size _ 0 [] rfl OE.out v7 (Spl.names tg) rfl ((RdO.own OD.out).below BA.out) (by have := HLO.out.2; omega) BA.out.size ?_
        intro v9 w9 o9 g9
        have B9 := hide (BA.out.grown g9 BA.out.size (fun k hk => (OE.out.lt k hk).1))
        have O9 := hide o9
        clear o9 g9
        refine hK.out _ _ (GD.out.below B9.out).st (fun hH => ?_)
        clear hK K
        try simp only [Act.put, List.getElem_toArray, List.getElem_cons_zero, List.getElem_cons_succ, List.setIfInBounds_toArray, List.set_cons_zero, List.set_cons_succ]
        refine wpAnyH_ready (rs := [8]) (by kernel_rfl) (by simp) ?_
        refine AllReadyH.cons (o := _) rfl (fun K hK => ?_) AllReadyH.nil
        rw [if_pos (by rfl)]
        refine wp_append_rdO (.tmp 138) (.tmp 139) rfl w8.drew.heap.size _ _ _ rfl O9.out _ r rfl (GD.out.below B9.out).rs (by have h1 := HLO.out.2; have h2 := HW.out.2.2.2.2.2.1; omega) B9.out.size ?_
        intro v10 w10 o10 g10
        have B10 := hide (B9.out.grown g10 B9.out.size (fun k hk => (O9.out.lt k hk).1))
        have O10 := hide (RdO.own o10)
        clear o10 g10
        refine hK.out _ _ (GD.out.below B10.out).st (fun hH => ?_)
        clear hK K
        try simp only [Act.put, List.getElem_toArray, List.getElem_cons_zero, List.getElem_cons_succ, List.setIfInBounds_toArray, List.set_cons_zero, List.set_cons_succ]
        refine wpAnyH_ready (rs := [12]) (by kernel_rfl) (by simp) ?_
        refine AllReadyH.cons (o := _) rfl (fun K hK => ?_) AllReadyH.nil
        go_simp
        have HI := HIH.out.2.2.2.2.2 h' (Spl.names tg ++ r) 1 HH.out (AtN.root HIH.out.1) (by have h1 := HLO.out.2; rw [List.length_append]; omega) _ vs v10 w10 (GD.out.below B10.out).nd (by simpa using O10.out)
        rw [show (8 : Int) - (h' : Int) = hp + 1 from by rw [HD.out.2.2.2.2, HH.out]; omega] at HI
        refine HI.mono ?_
        clear HI
        rintro e w11 ⟨rfl, b11⟩
        have B11 := hide (B10.out.trans (b11.mono B10.out.size))
        clear b11
        rw [← HGd.out]
        refine hK.out _ _ (GD.out.below B11.out).st (fun hH => ?_)
        clear hK K
        try simp only [Act.put, List.getElem_toArray, List.getElem_cons_zero, List.getElem_cons_succ, List.setIfInBounds_toArray, List.set_cons_zero, List.set_cons_succ]
        refine wpAnyH_take (i := 13) (oi := _) (v := .int .i64 R.1) rfl (by kernel_rfl) (by kernel_rfl) (by kernel_rfl) (fun _ _ _ h => h) (Or.inl ⟨by rfl, fun w' hw' => by go_simp⟩) hH ?_
        try simp only [Act.put, List.getElem_toArray, List.getElem_cons_zero, List.getElem_cons_succ, List.setIfInBounds_toArray, List.set_cons_zero, List.set_cons_succ]
        refine wpAnyH_take (i := 14) (oi := _) (v := .int .i64 R.2) rfl (by kernel_rfl) (by kernel_rfl) (by kernel_rfl) (fun _ _ _ h => h) (Or.inl ⟨by rfl, fun w' hw' => by go_simp⟩) hH ?_
        try simp only [Act.put, List.getElem_toArray, List.getElem_cons_zero, List.getElem_cons_succ, List.setIfInBounds_toArray, List.set_cons_zero, List.set_cons_succ]
        refine wpAnyH_take (i := 15) (oi := _) (v := .int .i64 R.1) rfl (by kernel_rfl) (by kernel_rfl) (by kernel_rfl) (fun _ _ _ h => h) (Or.inl ⟨by rfl, fun w' hw' => by go_simp⟩) hH ?_
        try simp only [Act.put, List.getElem_toArray, List.getElem_cons_zero, List.getElem_cons_succ, List.setIfInBounds_toArray, List.set_cons_zero, List.set_cons_succ]
        refine wpAnyH_take (i := 16) (oi := _) (v := .int .i64 R.2) rfl (by kernel_rfl) (by kernel_rfl) (by kernel_rfl) (fun _ _ _ h => h) (Or.inl ⟨by rfl, fun w' hw' => by go_simp⟩) hH ?_
        try simp only [Act.put, List.getElem_toArray, List.getElem_cons_zero, List.getElem_cons_succ, List.setIfInBounds_toArray, List.set_cons_zero, List.set_cons_succ]
        refine wpAnyH_done (by kernel_rfl) (NoPanic.normal ?_) _
        clear hH
        have BF := hide (GD.out.below B11.out).bel
        clear B9 B10 B11 O9 O10 OE OD BA GD
        go_wp2
        go_ret2
        exact ⟨rfl, BF.out⟩

      · have hzb : (zf == 47) = false := by simpa using hz
        have HGd := hide (show R = goH L uid gid false h' (Spl.names tg ++ r) cur from by rw [HNY.out, if_neg]; intro e9; apply hz; rw [HZF.out, List.getD_eq_getElem?_getD, e9]; rfl)
        clear hz
        go_upto_region 29 with fail
        refine wp_region_noPanic ?_
        refine wp_region_held_drew (S := fun w' => Blk w' sq #[.int .i64 C, .slice (some ⟨b, off, none⟩) N cap] 29) (by kernel_rfl) G7.out.st (fun hH => ?_)
        refine wpAnyH_take (i := 0) (oi := _) (v := .agg #[.int .i64 C, .slice (some ⟨b, off, none⟩) N cap]) rfl (by kernel_rfl) (by kernel_rfl) (by kernel_rfl) (fun _ _ _ h => h) (yieldsIf_load_mid (by rfl) 29 _ rfl sq 0 rfl (#[.int .i64 C, .slice (some ⟨b, off, none⟩) N cap]).toList _ (fun w' h => blk_range h) Tryz.underlying29 rfl infoStP) hH ?_
        try simp only [Act.put, List.getElem_toArray, List.getElem_cons_zero, List.getElem_cons_succ, List.setIfInBounds_toArray, List.set_cons_zero, List.set_cons_succ]
        refine wpAnyH_take (i := 1) (oi := _) (v := .int .i64 uid) rfl (by kernel_rfl) (by kernel_rfl) (by kernel_rfl) (fun _ _ _ h => h) (Or.inl ⟨by rfl, fun w' hw' => by go_simp⟩) hH ?_
        try simp only [Act.put, List.getElem_toArray, List.getElem_cons_zero, List.getElem_cons_succ, List.setIfInBounds_toArray, List.set_cons_zero, List.set_cons_succ]
        refine wpAnyH_take (i := 2) (oi := _) (v := .int .i64 gid) rfl (by kernel_rfl) (by kernel_rfl) (by kernel_rfl) (fun _ _ _ h => h) (Or.inl ⟨by rfl, fun w' hw' => by go_simp⟩) hH ?_
        try simp only [Act.put, List.getElem_toArray, List.getElem_cons_zero, List.getElem_cons_succ, List.setIfInBounds_toArray, List.set_cons_zero, List.set_cons_succ]
        refine wpAnyH_take (i := 3) (oi := _) (v := .int .i64 (cur : Int)) rfl (by kernel_rfl) (by kernel_rfl) (by kernel_rfl) (fun _ _ _ h => h) (Or.inl ⟨by rfl, fun w' hw' => by go_simp⟩) hH ?_
        try simp only [Act.put, List.getElem_toArray, List.getElem_cons_zero, List.getElem_cons_succ, List.setIfInBounds_toArray, List.set_cons_zero, List.set_cons_succ]
        refine wpAnyH_take (i := 5) (oi := _) (v := v7) rfl (by kernel_rfl) (by kernel_rfl) (by kernel_rfl) (fun _ _ _ h => h) (Or.inl ⟨by rfl, fun w' hw' => by go_simp⟩) hH ?_
        try simp only [Act.put, List.getElem_toArray, List.getElem_cons_zero, List.getElem_cons_succ, List.setIfInBounds_toArray, List.set_cons_zero, List.set_cons_succ]
        refine wpAnyH_take (i := 7) (oi := _) (v := .slice (some ⟨b2, o2, none⟩) n (cap2 - 1)) rfl (by kernel_rfl) (by kernel_rfl) (by kernel_rfl) (fun _ _ _ h => h) (Or.inl ⟨by rfl, fun w' hw' => by go_simp⟩) hH ?_
        try simp only [Act.put, List.getElem_toArray, List.getElem_cons_zero, List.getElem_cons_succ, List.setIfInBounds_toArray, List.set_cons_zero, List.set_cons_succ]
        refine wpAnyH_take (i := 9) (oi := _) (v := .bool false) rfl (by kernel_rfl) (by kernel_rfl) (by kernel_rfl) (fun _ _ _ h => h) (Or.inl ⟨by rfl, fun w' hw' => by go_simp⟩) hH ?_
        try simp only [Act.put, List.getElem_toArray, List.getElem_cons_zero, List.getElem_cons_succ, List.setIfInBounds_toArray, List.set_cons_zero, List.set_cons_succ]
        refine wpAnyH_take (i := 10) (oi := _) (v := .int .i64 hp) rfl (by kernel_rfl) (by kernel_rfl) (by kernel_rfl) (fun _ _ _ h => h) (Or.inl ⟨by rfl, fun w' hw' => by go_simp⟩) hH ?_
        try simp only [Act.put, List.getElem_toArray, List.getElem_cons_zero, List.getElem_cons_succ, List.setIfInBounds_toArray, List.set_cons_zero, List.set_cons_succ]
        refine wpAnyH_take (i := 11) (oi := _) (v := .int .i64 (hp + 1)) rfl (by kernel_rfl) (by kernel_rfl) (by kernel_rfl) (fun _ _ _ h => h) (Or.inl ⟨by rfl, fun w' hw' => by go_simp; rw [IntKind.wrap_i64]; omega⟩) hH ?_
        try simp only [Act.put, List.getElem_toArray, List.getElem_cons_zero, List.getElem_cons_succ, List.setIfInBounds_toArray, List.set_cons_zero, List.set_cons_succ]
        have GD := hide (G7.out.below (Below.refl _ _).drew)
        have OD := hide (own_below O7.out (Below.refl _ _).drew)
        have BA := hide (show Below w8.drew.heap.size w8.drew (w8.drew.alloc (.cells #[] 9)) from (Below.refl _ _).alloc (Nat.le_refl _) _)
        have OE := hide (empty_ownS w8.drew 9)
        refine wpAnyH_ready (rs := [4]) (by kernel_rfl) (by simp) ?_
        refine AllReadyH.cons (o := _) rfl (fun K hK => ?_) AllReadyH.nil
        go_simp
        refine hK.out _ _ (GD.out.below BA.out).st (fun hH => ?_)
        clear hK K
        try simp only [Act.put, List.getElem_toArray, List.getElem_cons_zero, List.getElem_cons_succ, List.setIfInBounds_toArray, List.set_cons_zero, List.set_cons_succ]
        refine wpAnyH_ready (rs := [6]) (by kernel_rfl) (by simp) ?_
        refine AllReadyH.cons (o := _) rfl (fun K hK => ?_) AllReadyH.nil
        rw [if_pos (by rfl)]
        refine wp_append_rdO (.tmp 136) (.tmp 137) rfl w8.drew.heap.size _ 0 [] rfl OE.out v7 (Spl.names tg) rfl ((RdO.own OD.out).below BA.out) (by have := HLO.out.2; omega) BA.out.size ?_
        intro v9 w9 o9 g9
        have B9 := hide (BA.out.grown g9 BA.out.size (fun k hk => (OE.out.lt k hk).1))
        have O9 := hide o9
        clear o9 g9
        refine hK.out _ _ (GD.out.below B9.out).st (fun hH => ?_)
        clear hK K
        try simp only [Act.put, List.getElem_toArray, List.getElem_cons_zero, List.getElem_cons_succ, List.setIfInBounds_toArray, List.set_cons_zero, List.set_cons_succ]
        refine wpAnyH_ready (rs := [8]) (by kernel_rfl) (by simp) ?_
        refine AllReadyH.cons (o := _) rfl (fun K hK => ?_) AllReadyH.nil
        rw [if_pos (by rfl)]
        refine wp_append_rdO (.tmp 138) (.tmp 139) rfl w8.drew.heap.size _ _ _ rfl O9.out _ r rfl (GD.out.below B9.out).rs (by have h1 := HLO.out.2; have h2 := HW.out.2.2.2.2.2.1; omega) B9.out.size ?_
        intro v10 w10 o10 g10
        have B10 := hide (B9.out.grown g10 B9.out.size (fun k hk => (O9.out.lt k hk).1))
        have O10 := hide (RdO.own o10)
        clear o10 g10
        refine hK.out _ _ (GD.out.below B10.out).st (fun hH => ?_)
        clear hK K
        try simp only [Act.put, List.getElem_toArray, List.getElem_cons_zero, List.getElem_cons_succ, List.setIfInBounds_toArray, List.set_cons_zero, List.set_cons_succ]
        refine wpAnyH_ready (rs := [12]) (by kernel_rfl) (by simp) ?_
        refine AllReadyH.cons (o := _) rfl (fun K hK => ?_) AllReadyH.nil
        go_simp
        have HI := HIH.out.2.2.2.2.2 h' (Spl.names tg ++ r) cur HH.out HIH.out.2.2.2.1 (by have h1 := HLO.out.2; rw [List.length_append]; omega) _ vs v10 w10 (GD.out.below B10.out).nd (by simpa using O10.out)
        rw [show (8 : Int) - (h' : Int) = hp + 1 from by rw [HD.out.2.2.2.2, HH.out]; omega] at HI
        refine HI.mono ?_
        clear HI
        rintro e w11 ⟨rfl, b11⟩
        have B11 := hide (B10.out.trans (b11.mono B10.out.size))
        clear b11
        rw [← HGd.out]
        refine hK.out _ _ (GD.out.below B11.out).st (fun hH => ?_)
        clear hK K
        try simp only [Act.put, List.getElem_toArray, List.getElem_cons_zero, List.getElem_cons_succ, List.setIfInBounds_toArray, List.set_cons_zero, List.set_cons_succ]
        refine wpAnyH_take (i := 13) (oi := _) (v := .int .i64 R.1) rfl (by kernel_rfl) (by kernel_rfl) (by kernel_rfl) (fun _ _ _ h => h) (Or.inl ⟨by rfl, fun w' hw' => by go_simp⟩) hH ?_
        try simp only [Act.put, List.getElem_toArray, List.getElem_cons_zero, List.getElem_cons_succ, List.setIfInBounds_toArray, List.set_cons_zero, List.set_cons_succ]
        refine wpAnyH_take (i := 14) (oi := _) (v := .int .i64 R.2) rfl (by kernel_rfl) (by kernel_rfl) (by kernel_rfl) (fun _ _ _ h => h) (Or.inl ⟨by rfl, fun w' hw' => by go_simp⟩) hH ?_
        try simp only [Act.put, List.getElem_toArray, List.getElem_cons_zero, List.getElem_cons_succ, List.setIfInBounds_toArray, List.set_cons_zero, List.set_cons_succ]
        refine wpAnyH_take (i := 15) (oi := _) (v := .int .i64 R.1) rfl (by kernel_rfl) (by kernel_rfl) (by kernel_rfl) (fun _ _ _ h => h) (Or.inl ⟨by rfl, fun w' hw' => by go_simp⟩) hH ?_
        try simp only [Act.put, List.getElem_toArray, List.getElem_cons_zero, List.getElem_cons_succ, List.setIfInBounds_toArray, List.set_cons_zero, List.set_cons_succ]
        refine wpAnyH_take (i := 16) (oi := _) (v := .int .i64 R.2) rfl (by kernel_rfl) (by kernel_rfl) (by kernel_rfl) (fun _ _ _ h => h) (Or.inl ⟨by rfl, fun w' hw' => by go_simp⟩) hH ?_
        try simp only [Act.put, List.getElem_toArray, List.getElem_cons_zero, List.getElem_cons_succ, List.setIfInBounds_toArray, List.set_cons_zero, List.set_cons_succ]
        refine wpAnyH_done (by kernel_rfl) (NoPanic.normal ?_) _
        clear hH
        have BF := hide (GD.out.below B11.out).bel
        clear B9 B10 B11 O9 O10 OE OD BA GD
        go_wp2
        go_ret2
        exact ⟨rfl, BF.out⟩
    · by_cases h0 : h = 0
      · have hb8 : (hp == 8) = true := by rw [HD.out.2.2.2.2, h0]; rfl
        have HE := hide (show R = (0, 14) from by rw [HNX.out, h0]; rfl)
        clear h0
        go_wp2
        go_ret2
        rw [HE.out]
        exact ⟨rfl, G6.out.bel⟩
      obtain ⟨h', hh'⟩ : ∃ h', h = h' + 1 := ⟨h - 1, by omega⟩
      have hb8 : (hp == 8) = false := by rw [HD.out.2.2.2.2]; simp; omega
      have hp0 : 0 ≤ hp := by rw [HD.out.2.2.2.2]; have := HIH.out.2.2.1; omega
      have hp7 : hp ≤ 7 := by rw [HD.out.2.2.2.2]; omega
      have HH := hide hh'
      clear h0 hh'
      go_wp2_with (go_at_call 50; fail)
      obtain ⟨tg, htg⟩ : ∃ tg, tg = strOfNums (ndAt L ino).d := ⟨_, rfl⟩
      rw [← htg]
      have HTG := hide (show tgN L ino = tg from htg.symm)
      have HTS := hide (show tg.size ≤ 255 from by rw [htg, strOfNums_size, ← HDL.out]; exact hdl2)
      clear htg
      refine (specCut_any tg _ (by have := HTS.out; omega)).mono ?_
      rintro e w7 ⟨v7, rfl, o7, b7⟩
      have G7 := hide (G6.out.below b7)
      have O7 := hide o7
      have S7 := hide b7.size
      have z7 := (b7.cell (cell_lt z0)).trans z0
      clear b7 o7 hcv z0 cS6 e1 e2 k9
      have hnl : (Spl.names tg).length ≤ 1000 := by have := Spl.names_len tg; have := HTS.out; omega
      go_wp2_with (go_at_call 51; fail)
      refine (specLong_any v7 (Spl.names tg) _ (RdS.own O7.out) hnl).mono ?_
      rintro e w8 ⟨rfl, rfl⟩
      by_cases hlong : Spl.longN (Spl.names tg) = true
      · rw [hlong]
        have HE := hide (show R = (0, 12) from by rw [HNX.out, HH.out]; show (if Spl.longN (Spl.names (tgN L ino)) = true then _ else _) = _; rw [HTG.out, if_pos hlong])
        clear hlong
        go_wp2
        go_ret2
        rw [HE.out]
        exact ⟨rfl, G7.out.bel⟩
      have hlf : Spl.longN (Spl.names tg) = false := by simpa using hlong
      rw [hlf]
      have HLO := hide (And.intro hlf (long_no hlf).1)
      have HNY := hide (show R = goH L uid gid true h' (Spl.names tg ++ r) (if (ndAt L ino).d[0]? = some 47 then 1 else cur) from by rw [HNX.out, HH.out]; show (if Spl.longN (Spl.names (tgN L ino)) = true then _ else _) = _; rw [HTG.out, if_neg hlong])
      clear hlong hlf
      by_cases hz : zf = 47
      · have hzb : (zf == 47) = true := by simpa using hz
        have HGd := hide (show R = goH L uid gid true h' (Spl.names tg ++ r) 1 from by rw [HNY.out, if_pos]; rw [← hz, HZF.out, List.getD_eq_getElem?_getD]; rw [List.getElem?_eq_getElem (by have := HLK.out.1; omega)]; rfl)
        clear hz
        go_upto_region 29 with fail
        refine wp_region_noPanic ?_
        refine wp_region_held_drew (S := fun w' => Blk w' sq #[.int .i64 C, .slice (some ⟨b, off, none⟩) N cap] 29) (by kernel_rfl) G7.out.st (fun hH => ?_)
        refine wpAnyH_take (i := 0) (oi := _) (v := .agg #[.int .i64 C, .slice (some ⟨b, off, none⟩) N cap]) rfl (by kernel_rfl) (by kernel_rfl) (by kernel_rfl) (fun _ _ _ h => h) (yieldsIf_load_mid (by rfl) 29 _ rfl sq 0 rfl (#[.int .i64 C, .slice (some ⟨b, off, none⟩) N cap]).toList _ (fun w' h => blk_range h) Tryz.underlying29 rfl infoStP) hH ?_
        try simp only [Act.put, List.getElem_toArray, List.getElem_cons_zero, List.getElem_cons_succ, List.setIfInBounds_toArray, List.set_cons_zero, List.set_cons_succ]
        refine wpAnyH_take (i := 1) (oi := _) (v := .int .i64 uid) rfl (by kernel_rfl) (by kernel_rfl) (by kernel_rfl) (fun _ _ _ h => h) (Or.inl ⟨by rfl, fun w' hw' => by go_simp⟩) hH ?_
        try simp only [Act.put, List.getElem_toArray, List.getElem_cons_zero, List.getElem_cons_succ, List.setIfInBounds_toArray, List.set_cons_zero, List.set_cons_succ]
        refine wpAnyH_take (i := 2) (oi := _) (v := .int .i64 gid) rfl (by kernel_rfl) (by kernel_rfl) (by kernel_rfl) (fun _ _ _ h => h) (Or.inl ⟨by rfl, fun w' hw' => by go_simp⟩) hH ?_
        try simp only [Act.put, List.getElem_toArray, List.getElem_cons_zero, List.getElem_cons_succ, List.setIfInBounds_toArray, List.set_cons_zero, List.set_cons_succ]
        refine wpAnyH_take (i := 3) (oi := _) (v := .int .i64 1) rfl (by kernel_rfl) (by kernel_rfl) (by kernel_rfl) (fun _ _ _ h => h) (Or.inl ⟨by rfl, fun w' hw' => by go_simp⟩) hH ?_
        try simp only [Act.put, List.getElem_toArray, List.getElem_cons_zero, List.getElem_cons_succ, List.setIfInBounds_toArray, List.set_cons_zero, List.set_cons_succ]
        refine wpAnyH_take (i := 5) (oi := _) (v := v7) rfl (by kernel_rfl) (by kernel_rfl) (by kernel_rfl) (fun _ _ _ h => h) (Or.inl ⟨by rfl, fun w' hw' => by go_simp⟩) hH ?_
        try simp only [Act.put, List.getElem_toArray, List.getElem_cons_zero, List.getElem_cons_succ, List.setIfInBounds_toArray, List.set_cons_zero, List.set_cons_succ]
        refine wpAnyH_take (i := 7) (oi := _) (v := .slice (some ⟨b2, o2, none⟩) n (cap2 - 1)) rfl (by kernel_rfl) (by kernel_rfl) (by kernel_rfl) (fun _ _ _ h => h) (Or.inl ⟨by rfl, fun w' hw' => by go_simp⟩) hH ?_
        try simp only [Act.put, List.getElem_toArray, List.getElem_cons_zero, List.getElem_cons_succ, List.setIfInBounds_toArray, List.set_cons_zero, List.set_cons_succ]
        refine wpAnyH_take (i := 9) (oi := _) (v := .bool true) rfl (by kernel_rfl) (by kernel_rfl) (by kernel_rfl) (fun _ _ _ h => h) (Or.inl ⟨by rfl, fun w' hw' => by go_simp⟩) hH ?_
        try simp only [Act.put, List.getElem_toArray, List.getElem_cons_zero, List.getElem_cons_succ, List.setIfInBounds_toArray, List.set_cons_zero, List.set_cons_succ]
        refine wpAnyH_take (i := 10) (oi := _) (v := .int .i64 hp) rfl (by kernel_rfl) (by kernel_rfl) (by kernel_rfl) (fun _ _ _ h => h) (Or.inl ⟨by rfl, fun w' hw' => by go_simp⟩) hH ?_
        try simp only [Act.put, List.getElem_toArray, List.getElem_cons_zero, List.getElem_cons_succ, List.setIfInBounds_toArray, List.set_cons_zero, List.set_cons_succ]
        refine wpAnyH_take (i := 11) (oi := _) (v := .int .i64 (hp + 1)) rfl (by kernel_rfl) (by kernel_rfl) (by kernel_rfl) (fun _ _ _ h => h) (Or.inl ⟨by rfl, fun w' hw' => by go_simp; rw [IntKind.wrap_i64]; omega⟩) hH ?_
        try simp only [Act.put, List.getElem_toArray, List.getElem_cons_zero, List.getElem_cons_succ, List.setIfInBounds_toArray, List.set_cons_zero, List.set_cons_succ]
        have GD := hide (G7.out.below (Below.refl _ _).drew)
        have OD := hide (own_below O7.out (Below.refl _ _).drew)
        have BA := hide (show Below w8.drew.heap.size w8.drew (w8.drew.alloc (.cells #[] 9)) from (Below.refl _ _).alloc (Nat.le_refl _) _)
        have OE := hide (empty_ownS w8.drew 9)
        refine wpAnyH_ready (rs := [4]) (by kernel_rfl) (by simp) ?_
        refine AllReadyH.cons (o := _) rfl (fun K hK => ?_) AllReadyH.nil
        go_simp
        refine hK.out _ _ (GD.out.below BA.out).st (fun hH => ?_)
        clear hK K
        try simp only [Act.put, List.getElem_toArray, List.getElem_cons_zero, List.getElem_cons_succ, List.setIfInBounds_toArray, List.set_cons_zero, List.set_cons_succ]
        refine wpAnyH_ready (rs := [6]) (by kernel_rfl) (by simp) ?_
        refine AllReadyH.cons (o := _) rfl (fun K hK => ?_) AllReadyH.nil
        rw [if_pos (by rfl)]
        refine wp_append_rdO (.tmp 136) (.tmp 137) rfl w8.drew.heap.size _ 0 [] rfl OE.out v7 (Spl.names tg) rfl ((RdO.own OD.out).below BA.out) (by have := HLO.out.2; omega) BA.out.size ?_
        intro v9 w9 o9 g9
        have B9 := hide (BA.out.grown g9 BA.out.size (fun k hk => (OE.out.lt k hk).1))
        have O9 := hide o9
        clear o9 g9
        refine hK.out _ _ (GD.out.below B9.out).st (fun hH => ?_)
        clear hK K
        try simp only [Act.put, List.getElem_toArray, List.getElem_cons_zero, List.getElem_cons_succ, List.setIfInBounds_toArray, List.set_cons_zero, List.set_cons_succ]
        refine wpAnyH_ready (rs := [8]) (by kernel_rfl) (by simp) ?_
        refine AllReadyH.cons (o := _) rfl (fun K hK => ?_) AllReadyH.nil
        rw [if_pos (by rfl)]
        refine wp_append_rdO (.tmp 138) (.tmp 139) rfl w8.drew.heap.size _ _ _ rfl O9.out _ r rfl (GD.out.below B9.out).rs (by have h1 := HLO.out.2; have h2 := HW.out.2.2.2.2.2.1; omega) B9.out.size ?_
        intro v10 w10 o10 g10
        have B10 := hide (B9.out.grown g10 B9.out.size (fun k hk => (O9.out.lt k hk).1))
        have O10 := hide (RdO.own o10)
        clear o10 g10
        refine hK.out _ _ (GD.out.below B10.out).st (fun hH => ?_)
        clear hK K
        try simp only [Act.put, List.getElem_toArray, List.getElem_cons_zero, List.getElem_cons_succ, List.setIfInBounds_toArray, List.set_cons_zero, List.set_cons_succ]
        refine wpAnyH_ready (rs := [12]) (by kernel_rfl) (by simp) ?_
        refine AllReadyH.cons (o := _) rfl (fun K hK => ?_) AllReadyH.nil
        go_simp
        have HI := HIH.out.2.2.2.2.2 h' (Spl.names tg ++ r) 1 HH.out (AtN.root HIH.out.1) (by have h1 := HLO.out.2; rw [List.length_append]; omega) _ vs v10 w10 (GD.out.below B10.out).nd (by simpa using O10.out)
        rw [show (8 : Int) - (h' : Int) = hp + 1 from by rw [HD.out.2.2.2.2, HH.out]; omega] at HI
        refine HI.mono ?_
        clear HI
        rintro e w11 ⟨rfl, b11⟩
        have B11 := hide (B10.out.trans (b11.mono B10.out.size))
        clear b11
        rw [← HGd.out]
        refine hK.out _ _ (GD.out.below B11.out).st (fun hH => ?_)
        clear hK K
        try simp only [Act.put, List.getElem_toArray, List.getElem_cons_zero, List.getElem_cons_succ, List.setIfInBounds_toArray, List.set_cons_zero, List.set_cons_succ]
        refine wpAnyH_take (i := 13) (oi := _) (v := .int .i64 R.1) rfl (by kernel_rfl) (by kernel_rfl) (by kernel_rfl) (fun _ _ _ h => h) (Or.inl ⟨by rfl, fun w' hw' => by go_simp⟩) hH ?_
        try simp only [Act.put, List.getElem_toArray, List.getElem_cons_zero, List.getElem_cons_succ, List.setIfInBounds_toArray, List.set_cons_zero, List.set_cons_succ]
        refine wpAnyH_take (i := 14) (oi := _) (v := .int .i64 R.2) rfl (by kernel_rfl) (by kernel_rfl) (by kernel_rfl) (fun _ _ _ h => h) (Or.inl ⟨by rfl, fun w' hw' => by go_simp⟩) hH ?_
        try simp only [Act.put, List.getElem_toArray, List.getElem_cons_zero, List.getElem_cons_succ, List.setIfInBounds_toArray, List.set_cons_zero, List.set_cons_succ]
        refine wpAnyH_take (i := 15) (oi := _) (v := .int .i64 R.1) rfl (by kernel_rfl) (by kernel_rfl) (by kernel_rfl) (fun _ _ _ h => h) (Or.inl ⟨by rfl, fun w' hw' => by go_simp⟩) hH ?_
        try simp only [Act.put, List.getElem_toArray, List.getElem_cons_zero, List.getElem_cons_succ, List.setIfInBounds_toArray, List.set_cons_zero, List.set_cons_succ]
        refine wpAnyH_take (i := 16) (oi := _) (v := .int .i64 R.2) rfl (by kernel_rfl) (by kernel_rfl) (by kernel_rfl) (fun _ _ _ h => h) (Or.inl ⟨by rfl, fun w' hw' => by go_simp⟩) hH ?_
        try simp only [Act.put, List.getElem_toArray, List.getElem_cons_zero, List.getElem_cons_succ, List.setIfInBounds_toArray, List.set_cons_zero, List.set_cons_succ]
        refine wpAnyH_done (by kernel_rfl) (NoPanic.normal ?_) _
        clear hH
        have BF := hide (GD.out.below B11.out).bel
        clear B9 B10 B11 O9 O10 OE OD BA GD
        go_wp2
        go_ret2
        exact ⟨rfl, BF.out⟩

      · have hzb : (zf == 47) = false := by simpa using hz
        have HGd := hide (show R = goH L uid gid true h' (Spl.names tg ++ r) cur from by rw [HNY.out, if_neg]; intro e9; apply hz; rw [HZF.out, List.getD_eq_getElem?_getD, e9]; rfl)
        clear hz
        go_upto_region 29 with fail
        refine wp_region_noPanic ?_
        refine wp_region_held_drew (S := fun w' => Blk w' sq #[.int .i64 C, .slice (some ⟨b, off, none⟩) N cap] 29) (by kernel_rfl) G7.out.st (fun hH => ?_)
        refine wpAnyH_take (i := 0) (oi := _) (v := .agg #[.int .i64 C, .slice (some ⟨b, off, none⟩) N cap]) rfl (by kernel_rfl) (by kernel_rfl) (by kernel_rfl) (fun _ _ _ h => h) (yieldsIf_load_mid (by rfl) 29 _ rfl sq 0 rfl (#[.int .i64 C, .slice (some ⟨b, off, none⟩) N cap]).toList _ (fun w' h => blk_range h) Tryz.underlying29 rfl infoStP) hH ?_
        try simp only [Act.put, List.getElem_toArray, List.getElem_cons_zero, List.getElem_cons_succ, List.setIfInBounds_toArray, List.set_cons_zero, List.set_cons_succ]
        refine wpAnyH_take (i := 1) (oi := _) (v := .int .i64 uid) rfl (by kernel_rfl) (by kernel_rfl) (by kernel_rfl) (fun _ _ _ h => h) (Or.inl ⟨by rfl, fun w' hw' => by go_simp⟩) hH ?_
        try simp only [Act.put, List.getElem_toArray, List.getElem_cons_zero, List.getElem_cons_succ, List.setIfInBounds_toArray, List.set_cons_zero, List.set_cons_succ]
        refine wpAnyH_take (i := 2) (oi := _) (v := .int .i64 gid) rfl (by kernel_rfl) (by kernel_rfl) (by kernel_rfl) (fun _ _ _ h => h) (Or.inl ⟨by rfl, fun w' hw' => by go_simp⟩) hH ?_
        try simp only [Act.put, List.getElem_toArray, List.getElem_cons_zero, List.getElem_cons_succ, List.setIfInBounds_toArray, List.set_cons_zero, List.set_cons_succ]
        refine wpAnyH_take (i := 3) (oi := _) (v := .int .i64 (cur : Int)) rfl (by kernel_rfl) (by kernel_rfl) (by kernel_rfl) (fun _ _ _ h => h) (Or.inl ⟨by rfl, fun w' hw' => by go_simp⟩) hH ?_
        try simp only [Act.put, List.getElem_toArray, List.getElem_cons_zero, List.getElem_cons_succ, List.setIfInBounds_toArray, List.set_cons_zero, List.set_cons_succ]
        refine wpAnyH_take (i := 5) (oi := _) (v := v7) rfl (by kernel_rfl) (by kernel_rfl) (by kernel_rfl) (fun _ _ _ h => h) (Or.inl ⟨by rfl, fun w' hw' => by go_simp⟩) hH ?_
        try simp only [Act.put, List.getElem_toArray, List.getElem_cons_zero, List.getElem_cons_succ, List.setIfInBounds_toArray, List.set_cons_zero, List.set_cons_succ]
        refine wpAnyH_take (i := 7) (oi := _) (v := .slice (some ⟨b2, o2, none⟩) n (cap2 - 1)) rfl (by kernel_rfl) (by kernel_rfl) (by kernel_rfl) (fun _ _ _ h => h) (Or.inl ⟨by rfl, fun w' hw' => by go_simp⟩) hH ?_
        try simp only [Act.put, List.getElem_toArray, List.getElem_cons_zero, List.getElem_cons_succ, List.setIfInBounds_toArray, List.set_cons_zero, List.set_cons_succ]
        refine wpAnyH_take (i := 9) (oi := _) (v := .bool true) rfl (by kernel_rfl) (by kernel_rfl) (by kernel_rfl) (fun _ _ _ h => h) (Or.inl ⟨by rfl, fun w' hw' => by go_simp⟩) hH ?_
        try simp only [Act.put, List.getElem_toArray, List.getElem_cons_zero, List.getElem_cons_succ, List.setIfInBounds_toArray, List.set_cons_zero, List.set_cons_succ]
        refine wpAnyH_take (i := 10) (oi := _) (v := .int .i64 hp) rfl (by kernel_rfl) (by kernel_rfl) (by kernel_rfl) (fun _ _ _ h => h) (Or.inl ⟨by rfl, fun w' hw' => by go_simp⟩) hH ?_
        try simp only [Act.put, List.getElem_toArray, List.getElem_cons_zero, List.getElem_cons_succ, List.setIfInBounds_toArray, List.set_cons_zero, List.set_cons_succ]
        refine wpAnyH_take (i := 11) (oi := _) (v := .int .i64 (hp + 1)) rfl (by kernel_rfl) (by kernel_rfl) (by kernel_rfl) (fun _ _ _ h => h) (Or.inl ⟨by rfl, fun w' hw' => by go_simp; rw [IntKind.wrap_i64]; omega⟩) hH ?_
        try simp only [Act.put, List.getElem_toArray, List.getElem_cons_zero, List.getElem_cons_succ, List.setIfInBounds_toArray, List.set_cons_zero, List.set_cons_succ]
        have GD := hide (G7.out.below (Below.refl _ _).drew)
        have OD := hide (own_below O7.out (Below.refl _ _).drew)
        have BA := hide (show Below w8.drew.heap.size w8.drew (w8.drew.alloc (.cells #[] 9)) from (Below.refl _ _).alloc (Nat.le_refl _) _)
        have OE := hide (empty_ownS w8.drew 9)
        refine wpAnyH_ready (rs := [4]) (by kernel_rfl) (by simp) ?_
        refine AllReadyH.cons (o := _) rfl (fun K hK => ?_) AllReadyH.nil
        go_simp
        refine hK.out _ _ (GD.out.below BA.out).st (fun hH => ?_)
        clear hK K
        try simp only [Act.put, List.getElem_toArray, List.getElem_cons_zero, List.getElem_cons_succ, List.setIfInBounds_toArray, List.set_cons_zero, List.set_cons_succ]
        refine wpAnyH_ready (rs := [6]) (by kernel_rfl) (by simp) ?_
        refine AllReadyH.cons (o := _) rfl (fun K hK => ?_) AllReadyH.nil
        rw [if_pos (by rfl)]
        refine wp_append_rdO (.tmp 136) (.tmp 137) rfl w8.drew.heap.size _ 0 [] rfl OE.out v7 (Spl.names tg) rfl ((RdO.own OD.out).below BA.out) (by have := HLO.out.2; omega) BA.out.size ?_
        intro v9 w9 o9 g9
        have B9 := hide (BA.out.grown g9 BA.out.size (fun k hk => (OE.out.lt k hk).1))
        have O9 := hide o9
        clear o9 g9
        refine hK.out _ _ (GD.out.below B9.out).st (fun hH => ?_)
        clear hK K
        try simp only [Act.put, List.getElem_toArray, List.getElem_cons_zero, List.getElem_cons_succ, List.setIfInBounds_toArray, List.set_cons_zero, List.set_cons_succ]
        refine wpAnyH_ready (rs := [8]) (by kernel_rfl) (by simp) ?_
        refine AllReadyH.cons (o := _) rfl (fun K hK => ?_) AllReadyH.nil
        rw [if_pos (by rfl)]
        refine wp_append_rdO (.tmp 138) (.tmp 139) rfl w8.drew.heap.size _ _ _ rfl O9.out _ r rfl (GD.out.below B9.out).rs (by have h1 := HLO.out.2; have h2 := HW.out.2.2.2.2.2.1; omega) B9.out.size ?_
        intro v10 w10 o10 g10
        have B10 := hide (B9.out.grown g10 B9.out.size (fun k hk => (O9.out.lt k hk).1))
        have O10 := hide (RdO.own o10)
        clear o10 g10
        refine hK.out _ _ (GD.out.below B10.out).st (fun hH => ?_)
        clear hK K
        try simp only [Act.put, List.getElem_toArray, List.getElem_cons_zero, List.getElem_cons_succ, List.setIfInBounds_toArray, List.set_cons_zero, List.set_cons_succ]
        refine wpAnyH_ready (rs := [12]) (by kernel_rfl) (by simp) ?_
        refine AllReadyH.cons (o := _) rfl (fun K hK => ?_) AllReadyH.nil
        go_simp
        have HI := HIH.out.2.2.2.2.2 h' (Spl.names tg ++ r) cur HH.out HIH.out.2.2.2.1 (by have h1 := HLO.out.2; rw [List.length_append]; omega) _ vs v10 w10 (GD.out.below B10.out).nd (by simpa using O10.out)
        rw [show (8 : Int) - (h' : Int) = hp + 1 from by rw [HD.out.2.2.2.2, HH.out]; omega] at HI
        refine HI.mono ?_
        clear HI
        rintro e w11 ⟨rfl, b11⟩
        have B11 := hide (B10.out.trans (b11.mono B10.out.size))
        clear b11
        rw [← HGd.out]
        refine hK.out _ _ (GD.out.below B11.out).st (fun hH => ?_)
        clear hK K
        try simp only [Act.put, List.getElem_toArray, List.getElem_cons_zero, List.getElem_cons_succ, List.setIfInBounds_toArray, List.set_cons_zero, List.set_cons_succ]
        refine wpAnyH_take (i := 13) (oi := _) (v := .int .i64 R.1) rfl (by kernel_rfl) (by kernel_rfl) (by kernel_rfl) (fun _ _ _ h => h) (Or.inl ⟨by rfl, fun w' hw' => by go_simp⟩) hH ?_
        try simp only [Act.put, List.getElem_toArray, List.getElem_cons_zero, List.getElem_cons_succ, List.setIfInBounds_toArray, List.set_cons_zero, List.set_cons_succ]
        refine wpAnyH_take (i := 14) (oi := _) (v := .int .i64 R.2) rfl (by kernel_rfl) (by kernel_rfl) (by kernel_rfl) (fun _ _ _ h => h) (Or.inl ⟨by rfl, fun w' hw' => by go_simp⟩) hH ?_
        try simp only [Act.put, List.getElem_toArray, List.getElem_cons_zero, List.getElem_cons_succ, List.setIfInBounds_toArray, List.set_cons_zero, List.set_cons_succ]
        refine wpAnyH_take (i := 15) (oi := _) (v := .int .i64 R.1) rfl (by kernel_rfl) (by kernel_rfl) (by kernel_rfl) (fun _ _ _ h => h) (Or.inl ⟨by rfl, fun w' hw' => by go_simp⟩) hH ?_
        try simp only [Act.put, List.getElem_toArray, List.getElem_cons_zero, List.getElem_cons_succ, List.setIfInBounds_toArray, List.set_cons_zero, List.set_cons_succ]
        refine wpAnyH_take (i := 16) (oi := _) (v := .int .i64 R.2) rfl (by kernel_rfl) (by kernel_rfl) (by kernel_rfl) (fun _ _ _ h => h) (Or.inl ⟨by rfl, fun w' hw' => by go_simp⟩) hH ?_
        try simp only [Act.put, List.getElem_toArray, List.getElem_cons_zero, List.getElem_cons_succ, List.setIfInBounds_toArray, List.set_cons_zero, List.set_cons_succ]
        refine wpAnyH_done (by kernel_rfl) (NoPanic.normal ?_) _
        clear hH
        have BF := hide (GD.out.below B11.out).bel
        clear B9 B10 B11 O9 O10 OE OD BA GD
        go_wp2
        go_ret2
        exact ⟨rfl, BF.out⟩

theorem go7_any (C : Int) (L : List Nd) (hR : RightS C L) (hbd : ∀ i, i < L.length → ∀ z ∈ (ndAt L i).d, 0 ≤ z ∧ z < 256) (uid gid : Int) (fw : Bool) : ∀ h, h ≤ 8 → ∀ ns cur, AtN L cur → ns.length ≤ 40 * (9 - h) → G7 C L uid gid fw h ns cur := by
  intro h
  induction h with
  | zero =>
    intro hh ns
    induction ns with
    | nil => intro cur _ _; exact go7_nil C L uid gid fw 0 cur
    | cons nm r ih =>
      intro cur hat hl
      rw [List.length_cons] at hl
      exact go7_cons C L hR hbd uid gid fw 0 hh cur hat nm r (by omega) (fun c hc => ih c hc (by omega)) (fun h' _ _ e => by omega)
  | succ h ihh =>
    intro hh ns
    induction ns with
    | nil => intro cur _ _; exact go7_nil C L uid gid fw (h + 1) cur
    | cons nm r ih =>
      intro cur hat hl
      rw [List.length_cons] at hl
      exact go7_cons C L hR hbd uid gid fw (h + 1) hh cur hat nm r (by omega) (fun c hc => ih c hc (by omega)) (fun h' ns' c e hc hl' => by
        obtain rfl : h = h' := by omega
        exact ihh (by omega) ns' c hc (by omega))
end Go.Proofs.YtplieplmhdfndaaGreatDoor
