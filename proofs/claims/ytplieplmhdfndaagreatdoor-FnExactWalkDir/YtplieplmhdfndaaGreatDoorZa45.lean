/- (walker).walk: its loop. -/
import Derived.Test.YtplieplmhdfndaaGreatDoorZa44
namespace Go.Proofs.YtplieplmhdfndaaGreatDoor
set_option linter.unusedVariables false
set_option linter.unusedSimpArgs false
open Go.RowKit

theorem RdO.range {w : World} {b o n c : Nat} {r : List ByteArray} (h : RdO w (.slice (some ⟨b, o, none⟩) n c) r) : w.rangeAt b o (r.map Value.string) := by
  obtain ⟨a, cap, e, h1, h2, h3⟩ := h
  intro j u hu
  have hj : 0 < r.length := by
    have := (List.getElem?_eq_some_iff.1 hu).1
    simp at this
    omega
  obtain ⟨b', o', ea, _, hr⟩ := h3 hj
  injection e with e1 _ _
  rw [ea] at e1
  injection e1 with e1
  injection e1 with e1 e2
  subst e1 e2
  exact hr j u hu
theorem tg_first (d : List Int) (hb : ∀ z ∈ d, 0 ≤ z ∧ z < 256) (h : 0 < (strOfNums d).size) : (((strOfNums d)[0].toNat : Int) == 47) = true ↔ d[0]? = some 47 := by
  cases d with
  | nil => simp [strOfNums_size] at h
  | cons z d =>
    have hz := hb z (by simp)
    have e : (strOfNums (z :: d))[0] = UInt8.ofNat z.toNat := rfl
    rw [e, UInt8.toNat_ofNat_of_lt' (by simp; omega)]
    simp
    omega
theorem link_len {C : Int} {L : List Nd} (h : RightS C L) {i : Nat} (hA : AtN L i) (hk : (ndAt L i).k = 3) : 1 ≤ (ndAt L i).d.length ∧ (ndAt L i).d.length ≤ 255 := by
  rcases h.node i hA.1 hA.2.1 with hf | hp
  · rw [freeN_iff] at hf
    rw [hf] at hk
    simp [nd0] at hk
  · unfold plainN at hp
    simp only [Bool.and_eq_true] at hp
    have h2 := hp.2
    rw [hk] at h2
    simp [targB] at h2
    exact ⟨by omega, h2.1.2⟩
theorem ne_list {s t : ByteArray} (h : ¬ s = t) : (s.toList == t.data.toList) = false := by
  cases hb : (s.toList == t.data.toList)
  · rfl
  · rw [ByteArray.toList_eq] at hb
    exact absurd (ByteArray.ext (Array.ext' (beq_iff_eq.1 hb))) h
set_option maxRecDepth 100000 in
set_option maxHeartbeats 4000000 in
theorem walk_any (bs bn : Nat) (C : Int) (L : List Nd) (ps : Array Value) (w : World) (h : OpS w bs bn C L ps) (hR : RightS C L) (hbd : ∀ i, i < L.length → ∀ z ∈ (ndAt L i).d, 0 ≤ z ∧ z < 256) (uid gid : Int) (fw : Bool) (nv : Value) (ns : List ByteArray) (hns : RdO w nv ns) (hn : ns.length ≤ 40) (hsm : ∀ x ∈ ns, x.size ≤ 512) :
    Calls Tryz.prog 73 #[.agg #[.pointer (some ⟨bs, 0, none⟩), .int .i64 uid, .int .i64 gid], nv, .bool fw] w fun e w' => e = .returned (.tuple #[.int .i64 (goH L uid gid fw 8 ns 1).1, .int .i64 (goH L uid gid fw 8 ns 1).2]) ∧ Below w.heap.size w w' := by
  obtain ⟨W1, hW1⟩ : ∃ W1, W1 = w.alloc (.cells #[.pointer (some ⟨bs, 0, none⟩), .int .i64 uid, .int .i64 gid] 90) := ⟨_, rfl⟩
  have b1 : Below w.heap.size w W1 := by rw [hW1]; exact (Below.refl _ _).alloc (Nat.le_refl _) _
  have k1 : Blk W1 w.heap.size #[.pointer (some ⟨bs, 0, none⟩), .int .i64 uid, .int .i64 gid] 90 := by rw [hW1]; exact Blk.new w _ _
  have H1 := hide (And.intro k1 (And.intro (h.below b1) (And.intro b1 hR)))
  have HBW := hide (show ∀ W, Below W1.heap.size W1 W → Below w.heap.size w W from fun W hb => b1.trans (hb.mono b1.size))
  obtain ⟨R, hRR⟩ : ∃ R, R = goH L uid gid fw 8 ns 1 := ⟨_, rfl⟩
  have HI := hide (show IwK L uid gid fw R W1 nv (.int .i64 1) (.int .i64 0) W1 from ⟨ns, 1, 8, Nat.le_refl _, rfl, rfl, AtN.root hR, hns.below b1, ⟨by omega, hsm⟩, hRR.symm, Below.refl _ _⟩)
  have HW1 := hide hW1
  have HBD := hide hbd
  rw [← hRR]
  clear h hR hbd hns hn hsm b1 k1 hW1 hRR
  go_enter Tryz.func73, Tryz.ntmps73
  go_upto_region 1 with fail
  rw [← HW1.out]
  obtain ⟨q, hq⟩ : ∃ q, q = w.heap.size := ⟨_, rfl⟩
  rw [← hq]
  rw [← hq] at H1
  clear HW1
  have HQ := hide hq
  clear hq
  go_step3
  go_wp2
  go_step3
  go_wp2
  go_loopw [1, 8, 9] (fun nv at_ hp wr => IwK L uid gid fw R W1 nv at_ hp wr) (fun nv _ hp _ => (8 - (intOf hp).toNat) * 41 + lenV nv)
  case atStart => exact HI.out
  case round =>
    clear HI
    obtain ⟨ns, cur, h, hh, rfl, rfl, hat, hrd, hlen, hgo, hbw⟩ := hrel
    cases ns with
    | nil =>
      obtain ⟨a, cap, rfl, _⟩ := hrd
      have HG := hide (show R = ((cur : Int), 0) from by rw [← hgo, goH_nil])
      have HB := hide hbw
      clear hgo hbw hlen
      simp only [List.length_nil]
      go_wp2
      rw [Exit.noGoto_ret]
      go_ret2
      rw [HG.out]
      refine ⟨rfl, ?_⟩
      exact HBW.out _ HB.out
    | cons nm r =>
      obtain ⟨b, off, cap, o2, rfl, hc1, hc2, hblt, hcell, ho2, hrO, hrR⟩ := hrd.cons
      have HO2 := hide ho2
      have HB := hide hbw
      have HT := hide (And.intro hcell (And.intro hrO hrR))
      have HGo := hide hgo
      have HK := hide (H1.out.1.below hbw H1.out.1.lt)
      have HO := hide (H1.out.2.1.below hbw)
      have HE := hide (enter_any bs bn C L ps wr HO.out (by have := H1.out.2.2.2.len.2; omega) uid gid cur hat)
      have hm : r.length + 1 ≤ 9223372036854775807 := by unfold maxLen at hc2; omega
      have hpos : decide (0 < r.length + 1) = true := by simp
      obtain ⟨n, hn⟩ : ∃ n, n = r.length := ⟨_, rfl⟩
      have HN := hide hn
      rw [← hn] at hc1 hm hpos ⊢
      clear hgo hbw hrd hcell hrO hrR hn ho2
      go_wp2_with (first | (refine wpList_load_row rfl 90 _ rfl q rfl 90 #[.pointer (some ⟨bs, 0, none⟩), .int .i64 uid, .int .i64 gid] (0, 0) _ HK.out Tryz.underlying90 rfl infoWk ?_) | (go_at_call 75; fail))
      refine HE.out.mono ?_
      rintro e w2 ⟨rfl, b2⟩
      have B2 := hide (HB.out.trans (b2.mono HB.out.size))
      have C2 := hide b2
      clear b2 HE
      by_cases he : entC0 (ndAt L cur) uid gid = 0
      · rw [he]
        have HEE := hide he
        clear he
        go_upto_region 6 with fail
        have h1n : (1 : Int) ≤ (n : Int) + 1 := by omega
        have hcl := (C2.out.cell (p := ⟨b, off, none⟩) hblt).trans HT.out.1
        refine wp_region_noPanic ?_
        refine wp_region_held_drew (S := fun w' => w'.cell? ⟨b, off, none⟩ = some (.string nm)) (by kernel_rfl) hcl (fun hH => ?_)
        refine wpAnyH_take (i := 0) (oi := _) (v := .slice (some ⟨b, off, none⟩) (n + 1) cap) rfl (by kernel_rfl) (by kernel_rfl) (by kernel_rfl) (fun _ _ _ h => h) (Or.inl ⟨by rfl, fun w' hw' => by go_simp⟩) hH ?_
        try simp only [Act.put, List.getElem_toArray, List.getElem_cons_zero, List.getElem_cons_succ, List.setIfInBounds_toArray, List.set_cons_zero, List.set_cons_succ]
        refine wpAnyH_take (i := 1) (oi := _) (v := .pointer (some ⟨b, off, none⟩)) rfl (by kernel_rfl) (by kernel_rfl) (by kernel_rfl) (fun _ _ _ h => h) (Or.inl ⟨by rfl, fun w' hw' => by go_simp⟩) hH ?_
        try simp only [Act.put, List.getElem_toArray, List.getElem_cons_zero, List.getElem_cons_succ, List.setIfInBounds_toArray, List.set_cons_zero, List.set_cons_succ]
        refine wpAnyH_take (i := 2) (oi := _) (v := .string nm) rfl (by kernel_rfl) (by kernel_rfl) (by kernel_rfl) (fun _ _ _ h => h) (Or.inl ⟨by rfl, fun w' hw' => by have hc := hw'; clear hw'; go_simp⟩) hH ?_
        try simp only [Act.put, List.getElem_toArray, List.getElem_cons_zero, List.getElem_cons_succ, List.setIfInBounds_toArray, List.set_cons_zero, List.set_cons_succ]
        refine wpAnyH_take (i := 3) (oi := _) (v := .slice (some ⟨b, off, none⟩) (n + 1) cap) rfl (by kernel_rfl) (by kernel_rfl) (by kernel_rfl) (fun _ _ _ h => h) (Or.inl ⟨by rfl, fun w' hw' => by go_simp⟩) hH ?_
        try simp only [Act.put, List.getElem_toArray, List.getElem_cons_zero, List.getElem_cons_succ, List.setIfInBounds_toArray, List.set_cons_zero, List.set_cons_succ]
        refine wpAnyH_take (i := 4) (oi := _) (v := .slice (some ⟨b, o2, none⟩) n (cap - 1)) rfl (by kernel_rfl) (by kernel_rfl) (by kernel_rfl) (fun _ _ _ h => h) (Or.inl ⟨by rfl, fun w' hw' => by go_simp; exact HO2.out⟩) hH ?_
        try simp only [Act.put, List.getElem_toArray, List.getElem_cons_zero, List.getElem_cons_succ, List.setIfInBounds_toArray, List.set_cons_zero, List.set_cons_succ]
        refine wpAnyH_take (i := 5) (oi := _) (v := .string nm) rfl (by kernel_rfl) (by kernel_rfl) (by kernel_rfl) (fun _ _ _ h => h) (Or.inl ⟨by rfl, fun w' hw' => by go_simp⟩) hH ?_
        try simp only [Act.put, List.getElem_toArray, List.getElem_cons_zero, List.getElem_cons_succ, List.setIfInBounds_toArray, List.set_cons_zero, List.set_cons_succ]
        refine wpAnyH_take (i := 6) (oi := _) (v := .slice (some ⟨b, o2, none⟩) n (cap - 1)) rfl (by kernel_rfl) (by kernel_rfl) (by kernel_rfl) (fun _ _ _ h => h) (Or.inl ⟨by rfl, fun w' hw' => by go_simp⟩) hH ?_
        try simp only [Act.put, List.getElem_toArray, List.getElem_cons_zero, List.getElem_cons_succ, List.setIfInBounds_toArray, List.set_cons_zero, List.set_cons_succ]
        refine wpAnyH_done (by kernel_rfl) (NoPanic.normal ?_) _
        clear hH hcl h1n
        go_upto_region 9 with fail
        have HRd := hide (show RdO w2.drew (.slice (some ⟨b, o2, none⟩) n (cap - 1)) r from by rw [HN.out]; exact HT.out.2.1.below (C2.out.drew))
        by_cases hdot : nm = wkDot
        · subst hdot
          have HGd := hide (show goH L uid gid fw h r cur = R from by rw [← HGo.out, goH_dot L uid gid fw h cur r HEE.out])
          unfold wkDot
          go_wp2
          go_roundw
          case rel => exact ⟨r, cur, h, hh, rfl, rfl, hat, HRd.out, ⟨by have := hlen.1; simp at this; omega, fun x hx => hlen.2 x (List.mem_cons_of_mem _ hx)⟩, HGd.out, B2.out.drew⟩
          case measure => simp [lenV]
        · have hd1 : (nm.toList == [46]) = false := ne_list hdot
          obtain ⟨w3, hw3⟩ : ∃ w3, w3 = w2.drew := ⟨_, rfl⟩
          have B3 := hide (show Below W1.heap.size W1 w3 from by rw [hw3]; exact B2.out.drew)
          have C3 := hide (show Below wr.heap.size wr w3 from by rw [hw3]; exact C2.out.drew)
          rw [← hw3]
          rw [← hw3] at HRd
          have KB3 := hide (H1.out.1.below B3.out H1.out.1.lt)
          have O3 := hide (H1.out.2.1.below B3.out)
          clear hw3 B2 C2 HK HO
          obtain ⟨p, hp_, hn'⟩ := O3.out.nd.cell hat.2.1
          obtain ⟨g, a, c, dp, rfl, hg, _, _, _, hd2⟩ := hn'.some hat.2.2
          obtain ⟨d, rfl, hdir⟩ := hd2 (entC0_ok HEE.out).1
          have HD := hide hdir
          have q0 := (KB3.out.cell 0).trans (show _ = some (Value.pointer (some ⟨bs, 0, none⟩)) from rfl)
          have c1 := (O3.out.st.cell 1).trans (show _ = some (Value.slice (some ⟨bn, 0, none⟩) L.length L.length) from rfl)
          have c5 := (hg.cell 5).trans (show _ = some (Value.int .i64 (ndAt L cur).p) from rfl)
          have c10 := (hg.cell 10).trans (show _ = some (Value.pointer (some ⟨d, 0, none⟩)) from rfl)
          have hcl : cur < L.length := hat.2.1
          have hLL : L.length ≤ 1001 := H1.out.2.2.2.len.2
          clear hn' hd2 hdir hg
          by_cases hup : nm = wkUp
          · subst hup
            obtain ⟨j, hpj, hj1, hj2, hj3⟩ := par_to H1.out.2.2.2 hat.1 hat.2.1 (entC0_ok HEE.out).1
            rw [hpj] at c5
            have HGu := hide (show goH L uid gid fw h r j = R from by rw [← HGo.out, goH_up L uid gid fw h cur r HEE.out, hpj]; rfl)
            unfold wkUp
            clear hpj
            go_wp2
            go_roundw
            case rel => exact ⟨r, j, h, hh, rfl, rfl, ⟨hj1, hj2, by rw [hj3]; decide⟩, HRd.out, ⟨by have := hlen.1; simp at this; omega, fun x hx => hlen.2 x (List.mem_cons_of_mem _ hx)⟩, HGu.out, B3.out⟩
            case measure => simp [lenV]
          · have hd2 : (nm.toList == [46, 46]) = false := ne_list hup
            have hsz : nm.size ≤ maxLen := by have := hlen.2 nm (List.mem_cons_self); unfold maxLen; omega
            go_wp2_with (go_at_call 97; fail)
            refine (find_any d (ndAt L cur).d nm _ HD.out hsz).mono ?_
            rintro e w4 ⟨rfl, b4⟩
            have B4 := hide (B3.out.trans (b4.mono B3.out.size))
            have C4 := hide b4
            clear b4
            unfold entC
            by_cases hfi : fiB (ndAt L cur).d nm = true
            · obtain ⟨e, hen, he1, he2⟩ := fi_some (x := ndAt L cur) hfi
              obtain ⟨⟨fnn, hin⟩, ht1, ht2⟩ := fi_to H1.out.2.2.2 hat.2.1 (entC0_ok HEE.out).1 hen
              rw [hfi, he1, he2]
              obtain ⟨fnm, hfn⟩ : ∃ y, y = (fiE (ndAt L cur).d nm).1 := ⟨_, rfl⟩
              rw [← hfn]
              obtain ⟨ino, kd⟩ := e
              simp only at he1 he2 ht1 ht2 hin ⊢
              have HEN := hide hen
              clear hfn hfi he1 he2 hen
              go_upto_region 15 with fail
              have H5 := hide (show Below w4.heap.size w4 (w4.alloc (.cells #[.string fnm, .int .i64 (ino : Int), .int .i64 (kd : Int)] 61)) ∧ Blk (w4.alloc (.cells #[.string fnm, .int .i64 (ino : Int), .int .i64 (kd : Int)] 61)) w4.heap.size #[.string fnm, .int .i64 (ino : Int), .int .i64 (kd : Int)] 61 from ⟨(Below.refl _ _).alloc (Nat.le_refl _) _, Blk.new _ _ _⟩)
              generalize w4.alloc (.cells #[.string fnm, .int .i64 (ino : Int), .int .i64 (kd : Int)] 61) = w5 at H5 ⊢
              obtain ⟨qe, hqe⟩ : ∃ qe, qe = w4.heap.size := ⟨_, rfl⟩
              rw [← hqe]
              have HKE := hide (show Blk w5 qe #[.string fnm, .int .i64 (ino : Int), .int .i64 (kd : Int)] 61 from by rw [hqe]; exact H5.out.2)
              have B5 := hide (B4.out.trans (H5.out.1.mono B4.out.size))
              have R5 := hide ((HRd.out.below C4.out).below H5.out.1)
              clear hqe H5
              have e1 := (HKE.out.cell 1).trans (show _ = some (Value.int .i64 (ino : Int)) from rfl)
              have e2 := (HKE.out.cell 2).trans (show _ = some (Value.int .i64 (kd : Int)) from rfl)
              have hA : AtN L ino := ⟨(entN_kind hin).1.1, ht1, by rw [ht2]; have := (entN_kind hin).2.1; simp only at this; omega⟩
              have hgk := goH_ok L uid gid fw h cur nm r HEE.out
              rw [if_neg hdot, if_neg hup, HEN.out] at hgk
              simp only at hgk
              have HGK := hide hgk
              clear hgk
              by_cases hkd : kd = 3
              · by_cases hff : fw = true ∨ 0 < n
                · have HGf := hide (show nextH L uid gid fw h cur ino r = R from by rw [← HGo.out, HGK.out, if_pos ⟨hkd, hff.elim .inl (fun hn0 => .inr (fun e => by rw [HN.out, e] at hn0; simp at hn0))⟩])
                  obtain ⟨hp, hhp⟩ : ∃ hp : Int, hp = 8 - (h : Int) := ⟨_, rfl⟩
                  rw [← hhp]
                  have HHP := hide hhp
                  have HA := hide hA
                  subst hkd
                  clear hhp
                  by_cases h0 : h = 0
                  · have hb8 : (hp == 8) = true := by rw [HHP.out, h0]; rfl
                    have HG4 := hide (show R = (0, 14) from by rw [← HGf.out, h0]; rfl)
                    clear q0 c1 c5 c10 hp_ h0
                    cases fw
                    · have hn0 : 0 < n := by simpa using hff
                      clear hff
                      go_wp2
                      try rw [Exit.noGoto_ret]
                      go_ret2
                      rw [HG4.out]
                      exact ⟨rfl, HBW.out _ B5.out⟩
                    · clear hff
                      go_wp2
                      try rw [Exit.noGoto_ret]
                      go_ret2
                      rw [HG4.out]
                      exact ⟨rfl, HBW.out _ B5.out⟩
                  · cases fw
                    · have hn0 : 0 < n := by simpa using hff
                      clear hff
                      obtain ⟨h', rfl⟩ : ∃ h', h = h' + 1 := ⟨h - 1, by omega⟩
                      have hb8 : (hp == 8) = false := by rw [HHP.out]; simp; omega
                      have O5 := hide (H1.out.2.1.below B5.out)
                      obtain ⟨p2, hp2, hn2⟩ := O5.out.nd.cell HA.out.2.1
                      obtain ⟨g2, a2, c2, dp2, rfl, hg2, hrd2, _, _, _⟩ := hn2.some HA.out.2.2
                      have k0 := (H1.out.1.below B5.out H1.out.1.lt |>.cell 0).trans (show _ = some (Value.pointer (some ⟨bs, 0, none⟩)) from rfl)
                      obtain ⟨N, hNN⟩ : ∃ N, N = L.length := ⟨_, rfl⟩
                      have k1 := (O5.out.st.cell 1).trans (show _ = some (Value.slice (some ⟨bn, 0, none⟩) L.length L.length) from rfl)
                      have k9 := (hg2.cell 9).trans (show _ = some (Value.slice a2 (ndAt L ino).d.length c2) from rfl)
                      obtain ⟨dl, hdl⟩ : ∃ dl, dl = (ndAt L ino).d.length := ⟨_, rfl⟩
                      rw [← hdl] at k9 hrd2
                      rw [← hNN] at k1
                      have hino : ino < N := by rw [hNN]; exact HA.out.2.1
                      have hNl : N ≤ 1001 := by rw [hNN]; exact hLL
                      have HS5 := hide (And.intro k0 (And.intro k1 (And.intro e1 (And.intro hp2 (And.intro k9 hrd2)))))
                      clear q0 c1 c5 c10 hp_ k0 k1 k9 hp2 hn2 hg2 hrd2 hdl hNN
                      go_upto_region 19 with fail
                      refine wp_region_noPanic ?_
                      refine wp_region_held_drew (S := fun w' => w'.cell? ⟨q, 0, none⟩ = some (.pointer (some ⟨bs, 0, none⟩)) ∧ w'.cell? ⟨bs, 1, none⟩ = some (.slice (some ⟨bn, 0, none⟩) N N) ∧ w'.cell? ⟨qe, 1, none⟩ = some (.int .i64 (ino : Int)) ∧ w'.cell? ⟨bn, ino, none⟩ = some (.pointer (some ⟨g2, 0, none⟩)) ∧ w'.cell? ⟨g2, 9, none⟩ = some (.slice a2 dl c2) ∧ Rd .u8 w' (.slice a2 dl c2) (ndAt L ino).d) (by kernel_rfl) HS5.out (fun hH => ?_)
                      refine wpAnyH_take (i := 0) (oi := _) (v := .pointer (some ⟨q, 0, none⟩)) rfl (by kernel_rfl) (by kernel_rfl) (by kernel_rfl) (fun _ _ _ h => h) (Or.inl ⟨by rfl, fun w' hw' => by go_simp⟩) hH ?_
                      try simp only [Act.put, List.getElem_toArray, List.getElem_cons_zero, List.getElem_cons_succ, List.setIfInBounds_toArray, List.set_cons_zero, List.set_cons_succ]
                      refine wpAnyH_take (i := 1) (oi := _) (v := .pointer (some ⟨bs, 0, none⟩)) rfl (by kernel_rfl) (by kernel_rfl) (by kernel_rfl) (fun _ _ _ h => h) (Or.inl ⟨by rfl, fun w' hw' => by have hc := hw'.1; clear hw'; go_simp⟩) hH ?_
                      try simp only [Act.put, List.getElem_toArray, List.getElem_cons_zero, List.getElem_cons_succ, List.setIfInBounds_toArray, List.set_cons_zero, List.set_cons_succ]
                      refine wpAnyH_take (i := 2) (oi := _) (v := .pointer (some ⟨bs, 0, none⟩)) rfl (by kernel_rfl) (by kernel_rfl) (by kernel_rfl) (fun _ _ _ h => h) (Or.inl ⟨by rfl, fun w' hw' => by go_simp⟩) hH ?_
                      try simp only [Act.put, List.getElem_toArray, List.getElem_cons_zero, List.getElem_cons_succ, List.setIfInBounds_toArray, List.set_cons_zero, List.set_cons_succ]
                      refine wpAnyH_take (i := 3) (oi := _) (v := .pointer (some ⟨bs, 1, none⟩)) rfl (by kernel_rfl) (by kernel_rfl) (by kernel_rfl) (fun _ _ _ h => h) (Or.inl ⟨by rfl, fun w' hw' => by go_simp⟩) hH ?_
                      try simp only [Act.put, List.getElem_toArray, List.getElem_cons_zero, List.getElem_cons_succ, List.setIfInBounds_toArray, List.set_cons_zero, List.set_cons_succ]
                      refine wpAnyH_take (i := 4) (oi := _) (v := .slice (some ⟨bn, 0, none⟩) N N) rfl (by kernel_rfl) (by kernel_rfl) (by kernel_rfl) (fun _ _ _ h => h) (Or.inl ⟨by rfl, fun w' hw' => by have hc := hw'.2.1; clear hw'; go_simp⟩) hH ?_
                      try simp only [Act.put, List.getElem_toArray, List.getElem_cons_zero, List.getElem_cons_succ, List.setIfInBounds_toArray, List.set_cons_zero, List.set_cons_succ]
                      refine wpAnyH_take (i := 5) (oi := _) (v := .pointer (some ⟨qe, 1, none⟩)) rfl (by kernel_rfl) (by kernel_rfl) (by kernel_rfl) (fun _ _ _ h => h) (Or.inl ⟨by rfl, fun w' hw' => by go_simp⟩) hH ?_
                      try simp only [Act.put, List.getElem_toArray, List.getElem_cons_zero, List.getElem_cons_succ, List.setIfInBounds_toArray, List.set_cons_zero, List.set_cons_succ]
                      refine wpAnyH_take (i := 6) (oi := _) (v := .int .i64 (ino : Int)) rfl (by kernel_rfl) (by kernel_rfl) (by kernel_rfl) (fun _ _ _ h => h) (Or.inl ⟨by rfl, fun w' hw' => by have hc := hw'.2.2.1; clear hw'; go_simp⟩) hH ?_
                      try simp only [Act.put, List.getElem_toArray, List.getElem_cons_zero, List.getElem_cons_succ, List.setIfInBounds_toArray, List.set_cons_zero, List.set_cons_succ]
                      refine wpAnyH_take (i := 7) (oi := _) (v := .pointer (some ⟨bn, ino, none⟩)) rfl (by kernel_rfl) (by kernel_rfl) (by kernel_rfl) (fun _ _ _ h => h) (Or.inl ⟨by rfl, fun w' hw' => by go_simp⟩) hH ?_
                      try simp only [Act.put, List.getElem_toArray, List.getElem_cons_zero, List.getElem_cons_succ, List.setIfInBounds_toArray, List.set_cons_zero, List.set_cons_succ]
                      refine wpAnyH_take (i := 8) (oi := _) (v := .pointer (some ⟨g2, 0, none⟩)) rfl (by kernel_rfl) (by kernel_rfl) (by kernel_rfl) (fun _ _ _ h => h) (Or.inl ⟨by rfl, fun w' hw' => by have hc := hw'.2.2.2.1; clear hw'; go_simp⟩) hH ?_
                      try simp only [Act.put, List.getElem_toArray, List.getElem_cons_zero, List.getElem_cons_succ, List.setIfInBounds_toArray, List.set_cons_zero, List.set_cons_succ]
                      refine wpAnyH_take (i := 9) (oi := _) (v := .pointer (some ⟨g2, 0, none⟩)) rfl (by kernel_rfl) (by kernel_rfl) (by kernel_rfl) (fun _ _ _ h => h) (Or.inl ⟨by rfl, fun w' hw' => by go_simp⟩) hH ?_
                      try simp only [Act.put, List.getElem_toArray, List.getElem_cons_zero, List.getElem_cons_succ, List.setIfInBounds_toArray, List.set_cons_zero, List.set_cons_succ]
                      refine wpAnyH_take (i := 10) (oi := _) (v := .pointer (some ⟨g2, 0, none⟩)) rfl (by kernel_rfl) (by kernel_rfl) (by kernel_rfl) (fun _ _ _ h => h) (Or.inl ⟨by rfl, fun w' hw' => by go_simp⟩) hH ?_
                      try simp only [Act.put, List.getElem_toArray, List.getElem_cons_zero, List.getElem_cons_succ, List.setIfInBounds_toArray, List.set_cons_zero, List.set_cons_succ]
                      refine wpAnyH_take (i := 11) (oi := _) (v := .pointer (some ⟨g2, 9, none⟩)) rfl (by kernel_rfl) (by kernel_rfl) (by kernel_rfl) (fun _ _ _ h => h) (Or.inl ⟨by rfl, fun w' hw' => by go_simp⟩) hH ?_
                      try simp only [Act.put, List.getElem_toArray, List.getElem_cons_zero, List.getElem_cons_succ, List.setIfInBounds_toArray, List.set_cons_zero, List.set_cons_succ]
                      refine wpAnyH_take (i := 12) (oi := _) (v := .slice a2 dl c2) rfl (by kernel_rfl) (by kernel_rfl) (by kernel_rfl) (fun _ _ _ h => h) (Or.inl ⟨by rfl, fun w' hw' => by have hc := hw'.2.2.2.2.1; clear hw'; go_simp⟩) hH ?_
                      try simp only [Act.put, List.getElem_toArray, List.getElem_cons_zero, List.getElem_cons_succ, List.setIfInBounds_toArray, List.set_cons_zero, List.set_cons_succ]
                      refine wpAnyH_take (i := 13) (oi := _) (v := .string (strOfNums (ndAt L ino).d)) rfl (by kernel_rfl) (by kernel_rfl) (by kernel_rfl) (fun _ _ _ h => h) (yieldsIf_conv (by rfl) _ rfl (.slice a2 dl c2) rfl _ (fun w' h => h.2.2.2.2.2)) hH ?_
                      try simp only [Act.put, List.getElem_toArray, List.getElem_cons_zero, List.getElem_cons_succ, List.setIfInBounds_toArray, List.set_cons_zero, List.set_cons_succ]
                      refine wpAnyH_take (i := 14) (oi := _) (v := .string (strOfNums (ndAt L ino).d)) rfl (by kernel_rfl) (by kernel_rfl) (by kernel_rfl) (fun _ _ _ h => h) (Or.inl ⟨by rfl, fun w' hw' => by go_simp⟩) hH ?_
                      try simp only [Act.put, List.getElem_toArray, List.getElem_cons_zero, List.getElem_cons_succ, List.setIfInBounds_toArray, List.set_cons_zero, List.set_cons_succ]
                      refine wpAnyH_done (by kernel_rfl) (NoPanic.normal ?_) _
                      clear hH
                      obtain ⟨tg, htg⟩ : ∃ tg, tg = strOfNums (ndAt L ino).d := ⟨_, rfl⟩
                      rw [← htg]
                      have HTG := hide (show tgN L ino = tg from htg.symm)
                      have hts : 1 ≤ tg.size ∧ tg.size ≤ 512 := by rw [htg, strOfNums_size]; have := link_len H1.out.2.2.2 HA.out ht2; omega
                      obtain ⟨w6, hw6⟩ : ∃ w6, w6 = w5.drew := ⟨_, rfl⟩
                      have C6 := hide (show Below w5.heap.size w5 w6 from by rw [hw6]; exact (Below.refl _ _).drew)
                      rw [← hw6]
                      clear hw6 htg e1 e2
                      have hp0 : 0 ≤ hp := by rw [HHP.out]; omega
                      have hp8 : hp ≤ 8 := by rw [HHP.out]; omega
                      go_wp2_with (go_at_call 114; fail)
                      refine (implCutNames_any tg _ hts.2).mono ?_
                      rintro e w7 ⟨pv, rfl, ow, b7⟩
                      have B7 := hide (B5.out.trans ((C6.out.trans (b7.mono C6.out.size)).mono B5.out.size))
                      have C7 := hide (C6.out.trans (b7.mono C6.out.size))
                      have OW := hide ow
                      have S7 := hide b7.size
                      clear b7 ow
                      by_cases hlong : Spl.longN (Spl.names tg) = true
                      · rw [(cn_yes hlong).1]
                        have HG5 := hide (show R = (0, 12) from by rw [← HGf.out]; show (if Spl.longN (Spl.names (tgN L ino)) = true then _ else _) = _; rw [HTG.out, if_pos hlong])
                        obtain ⟨pa, pl, pc, rfl⟩ : ∃ a l c, pv = .slice a l c := by
                          rcases OW.out.2 with ⟨rfl, _⟩ | ⟨_, _, _, rfl, _⟩
                          · exact ⟨_, _, _, rfl⟩
                          · exact ⟨_, _, _, rfl⟩
                        clear hlong
                        go_wp2
                        try rw [Exit.noGoto_ret]
                        go_ret2
                        rw [HG5.out]
                        exact ⟨rfl, HBW.out _ B7.out⟩
                      · have hlf : Spl.longN (Spl.names tg) = false := by simpa using hlong
                        rw [(cn_no hlf).1]
                        have OW2 := OW.out
                        rw [(cn_no hlf).2] at OW2
                        go_upto_region 23 with fail
                        obtain ⟨i0, hi, hz0, hz1, hz2⟩ := info_parts infoStr
                        have hrr : w7.rangeAt b o2 (r.map Value.string) := (R5.out.below C7.out).range
                        have hcl2 : (Spl.names tg).length ≤ 40 := (long_no hlf).1
                        have hnr0 : n = r.length := HN.out
                        have hl2 : n + 1 ≤ 400 := by have := hlen.1; simp only [List.length_cons] at this; rw [hnr0]; omega
                        have hnr : n = r.length := HN.out
                        go_wp2_with (at_builtin; refine wpList_append_own _ rfl (.tmp 105) (.tmp 106) 57 rfl w6.heap.size 9 i0 (.string ⟨#[]⟩) 1 16 Tryz.underlying57 hi hz0 hz1 hz2 rfl (by decide) _ _ _ rfl OW2 ⟨b, o2, none⟩ n (cap - 1) (r.map Value.string) rfl (by simp [hnr]) (fun j u hu => by rw [Addr.add_mid]; exact hrr j u hu) (by intro u hu; obtain ⟨x, _, rfl⟩ := List.mem_map.1 hu; rfl) (by unfold maxLen; omega) (by omega) S7.out ?_; intro v8 w8 o8 g8 _)
                        all_goals have hB8 : Below W1.heap.size W1 w8 := B7.out.grown g8 B7.out.size (fun k hk => by have h1 := (OW2.lt k hk).1; have h2 := B5.out.size; have h3 := C6.out.size; omega)
                        all_goals rename_i hx0 hx1
                        all_goals have htf := tg_first (ndAt L ino).d (HBD.out ino HA.out.2.1)
                        all_goals rw [show strOfNums (ndAt L ino).d = tg from HTG.out] at htf
                        all_goals have htf := htf hx0
                        · exact iwk_link (at_ := 1) hh HHP.out (AtN.root H1.out.2.2.2) o8 hnr hlen hlf (by rw [← HGf.out]; show _ = if Spl.longN (Spl.names (tgN L ino)) = true then _ else _; rw [HTG.out, if_neg hlong, if_pos (htf.1 hx1)]) hB8
                        · exact iwk_link (at_ := cur) hh HHP.out hat o8 hnr hlen hlf (by rw [← HGf.out]; show _ = if Spl.longN (Spl.names (tgN L ino)) = true then _ else _; rw [HTG.out, if_neg hlong, if_neg (fun e => by rw [htf.2 e] at hx1; cases hx1)]) hB8
                    · clear hff
                      obtain ⟨h', rfl⟩ : ∃ h', h = h' + 1 := ⟨h - 1, by omega⟩
                      have hb8 : (hp == 8) = false := by rw [HHP.out]; simp; omega
                      have O5 := hide (H1.out.2.1.below B5.out)
                      obtain ⟨p2, hp2, hn2⟩ := O5.out.nd.cell HA.out.2.1
                      obtain ⟨g2, a2, c2, dp2, rfl, hg2, hrd2, _, _, _⟩ := hn2.some HA.out.2.2
                      have k0 := (H1.out.1.below B5.out H1.out.1.lt |>.cell 0).trans (show _ = some (Value.pointer (some ⟨bs, 0, none⟩)) from rfl)
                      obtain ⟨N, hNN⟩ : ∃ N, N = L.length := ⟨_, rfl⟩
                      have k1 := (O5.out.st.cell 1).trans (show _ = some (Value.slice (some ⟨bn, 0, none⟩) L.length L.length) from rfl)
                      have k9 := (hg2.cell 9).trans (show _ = some (Value.slice a2 (ndAt L ino).d.length c2) from rfl)
                      obtain ⟨dl, hdl⟩ : ∃ dl, dl = (ndAt L ino).d.length := ⟨_, rfl⟩
                      rw [← hdl] at k9 hrd2
                      rw [← hNN] at k1
                      have hino : ino < N := by rw [hNN]; exact HA.out.2.1
                      have hNl : N ≤ 1001 := by rw [hNN]; exact hLL
                      have HS5 := hide (And.intro k0 (And.intro k1 (And.intro e1 (And.intro hp2 (And.intro k9 hrd2)))))
                      clear q0 c1 c5 c10 hp_ k0 k1 k9 hp2 hn2 hg2 hrd2 hdl hNN
                      go_upto_region 19 with fail
                      refine wp_region_noPanic ?_
                      refine wp_region_held_drew (S := fun w' => w'.cell? ⟨q, 0, none⟩ = some (.pointer (some ⟨bs, 0, none⟩)) ∧ w'.cell? ⟨bs, 1, none⟩ = some (.slice (some ⟨bn, 0, none⟩) N N) ∧ w'.cell? ⟨qe, 1, none⟩ = some (.int .i64 (ino : Int)) ∧ w'.cell? ⟨bn, ino, none⟩ = some (.pointer (some ⟨g2, 0, none⟩)) ∧ w'.cell? ⟨g2, 9, none⟩ = some (.slice a2 dl c2) ∧ Rd .u8 w' (.slice a2 dl c2) (ndAt L ino).d) (by kernel_rfl) HS5.out (fun hH => ?_)
                      refine wpAnyH_take (i := 0) (oi := _) (v := .pointer (some ⟨q, 0, none⟩)) rfl (by kernel_rfl) (by kernel_rfl) (by kernel_rfl) (fun _ _ _ h => h) (Or.inl ⟨by rfl, fun w' hw' => by go_simp⟩) hH ?_
                      try simp only [Act.put, List.getElem_toArray, List.getElem_cons_zero, List.getElem_cons_succ, List.setIfInBounds_toArray, List.set_cons_zero, List.set_cons_succ]
                      refine wpAnyH_take (i := 1) (oi := _) (v := .pointer (some ⟨bs, 0, none⟩)) rfl (by kernel_rfl) (by kernel_rfl) (by kernel_rfl) (fun _ _ _ h => h) (Or.inl ⟨by rfl, fun w' hw' => by have hc := hw'.1; clear hw'; go_simp⟩) hH ?_
                      try simp only [Act.put, List.getElem_toArray, List.getElem_cons_zero, List.getElem_cons_succ, List.setIfInBounds_toArray, List.set_cons_zero, List.set_cons_succ]
                      refine wpAnyH_take (i := 2) (oi := _) (v := .pointer (some ⟨bs, 0, none⟩)) rfl (by kernel_rfl) (by kernel_rfl) (by kernel_rfl) (fun _ _ _ h => h) (Or.inl ⟨by rfl, fun w' hw' => by go_simp⟩) hH ?_
                      try simp only [Act.put, List.getElem_toArray, List.getElem_cons_zero, List.getElem_cons_succ, List.setIfInBounds_toArray, List.set_cons_zero, List.set_cons_succ]
                      refine wpAnyH_take (i := 3) (oi := _) (v := .pointer (some ⟨bs, 1, none⟩)) rfl (by kernel_rfl) (by kernel_rfl) (by kernel_rfl) (fun _ _ _ h => h) (Or.inl ⟨by rfl, fun w' hw' => by go_simp⟩) hH ?_
                      try simp only [Act.put, List.getElem_toArray, List.getElem_cons_zero, List.getElem_cons_succ, List.setIfInBounds_toArray, List.set_cons_zero, List.set_cons_succ]
                      refine wpAnyH_take (i := 4) (oi := _) (v := .slice (some ⟨bn, 0, none⟩) N N) rfl (by kernel_rfl) (by kernel_rfl) (by kernel_rfl) (fun _ _ _ h => h) (Or.inl ⟨by rfl, fun w' hw' => by have hc := hw'.2.1; clear hw'; go_simp⟩) hH ?_
                      try simp only [Act.put, List.getElem_toArray, List.getElem_cons_zero, List.getElem_cons_succ, List.setIfInBounds_toArray, List.set_cons_zero, List.set_cons_succ]
                      refine wpAnyH_take (i := 5) (oi := _) (v := .pointer (some ⟨qe, 1, none⟩)) rfl (by kernel_rfl) (by kernel_rfl) (by kernel_rfl) (fun _ _ _ h => h) (Or.inl ⟨by rfl, fun w' hw' => by go_simp⟩) hH ?_
                      try simp only [Act.put, List.getElem_toArray, List.getElem_cons_zero, List.getElem_cons_succ, List.setIfInBounds_toArray, List.set_cons_zero, List.set_cons_succ]
                      refine wpAnyH_take (i := 6) (oi := _) (v := .int .i64 (ino : Int)) rfl (by kernel_rfl) (by kernel_rfl) (by kernel_rfl) (fun _ _ _ h => h) (Or.inl ⟨by rfl, fun w' hw' => by have hc := hw'.2.2.1; clear hw'; go_simp⟩) hH ?_
                      try simp only [Act.put, List.getElem_toArray, List.getElem_cons_zero, List.getElem_cons_succ, List.setIfInBounds_toArray, List.set_cons_zero, List.set_cons_succ]
                      refine wpAnyH_take (i := 7) (oi := _) (v := .pointer (some ⟨bn, ino, none⟩)) rfl (by kernel_rfl) (by kernel_rfl) (by kernel_rfl) (fun _ _ _ h => h) (Or.inl ⟨by rfl, fun w' hw' => by go_simp⟩) hH ?_
                      try simp only [Act.put, List.getElem_toArray, List.getElem_cons_zero, List.getElem_cons_succ, List.setIfInBounds_toArray, List.set_cons_zero, List.set_cons_succ]
                      refine wpAnyH_take (i := 8) (oi := _) (v := .pointer (some ⟨g2, 0, none⟩)) rfl (by kernel_rfl) (by kernel_rfl) (by kernel_rfl) (fun _ _ _ h => h) (Or.inl ⟨by rfl, fun w' hw' => by have hc := hw'.2.2.2.1; clear hw'; go_simp⟩) hH ?_
                      try simp only [Act.put, List.getElem_toArray, List.getElem_cons_zero, List.getElem_cons_succ, List.setIfInBounds_toArray, List.set_cons_zero, List.set_cons_succ]
                      refine wpAnyH_take (i := 9) (oi := _) (v := .pointer (some ⟨g2, 0, none⟩)) rfl (by kernel_rfl) (by kernel_rfl) (by kernel_rfl) (fun _ _ _ h => h) (Or.inl ⟨by rfl, fun w' hw' => by go_simp⟩) hH ?_
                      try simp only [Act.put, List.getElem_toArray, List.getElem_cons_zero, List.getElem_cons_succ, List.setIfInBounds_toArray, List.set_cons_zero, List.set_cons_succ]
                      refine wpAnyH_take (i := 10) (oi := _) (v := .pointer (some ⟨g2, 0, none⟩)) rfl (by kernel_rfl) (by kernel_rfl) (by kernel_rfl) (fun _ _ _ h => h) (Or.inl ⟨by rfl, fun w' hw' => by go_simp⟩) hH ?_
                      try simp only [Act.put, List.getElem_toArray, List.getElem_cons_zero, List.getElem_cons_succ, List.setIfInBounds_toArray, List.set_cons_zero, List.set_cons_succ]
                      refine wpAnyH_take (i := 11) (oi := _) (v := .pointer (some ⟨g2, 9, none⟩)) rfl (by kernel_rfl) (by kernel_rfl) (by kernel_rfl) (fun _ _ _ h => h) (Or.inl ⟨by rfl, fun w' hw' => by go_simp⟩) hH ?_
                      try simp only [Act.put, List.getElem_toArray, List.getElem_cons_zero, List.getElem_cons_succ, List.setIfInBounds_toArray, List.set_cons_zero, List.set_cons_succ]
                      refine wpAnyH_take (i := 12) (oi := _) (v := .slice a2 dl c2) rfl (by kernel_rfl) (by kernel_rfl) (by kernel_rfl) (fun _ _ _ h => h) (Or.inl ⟨by rfl, fun w' hw' => by have hc := hw'.2.2.2.2.1; clear hw'; go_simp⟩) hH ?_
                      try simp only [Act.put, List.getElem_toArray, List.getElem_cons_zero, List.getElem_cons_succ, List.setIfInBounds_toArray, List.set_cons_zero, List.set_cons_succ]
                      refine wpAnyH_take (i := 13) (oi := _) (v := .string (strOfNums (ndAt L ino).d)) rfl (by kernel_rfl) (by kernel_rfl) (by kernel_rfl) (fun _ _ _ h => h) (yieldsIf_conv (by rfl) _ rfl (.slice a2 dl c2) rfl _ (fun w' h => h.2.2.2.2.2)) hH ?_
                      try simp only [Act.put, List.getElem_toArray, List.getElem_cons_zero, List.getElem_cons_succ, List.setIfInBounds_toArray, List.set_cons_zero, List.set_cons_succ]
                      refine wpAnyH_take (i := 14) (oi := _) (v := .string (strOfNums (ndAt L ino).d)) rfl (by kernel_rfl) (by kernel_rfl) (by kernel_rfl) (fun _ _ _ h => h) (Or.inl ⟨by rfl, fun w' hw' => by go_simp⟩) hH ?_
                      try simp only [Act.put, List.getElem_toArray, List.getElem_cons_zero, List.getElem_cons_succ, List.setIfInBounds_toArray, List.set_cons_zero, List.set_cons_succ]
                      refine wpAnyH_done (by kernel_rfl) (NoPanic.normal ?_) _
                      clear hH
                      obtain ⟨tg, htg⟩ : ∃ tg, tg = strOfNums (ndAt L ino).d := ⟨_, rfl⟩
                      rw [← htg]
                      have HTG := hide (show tgN L ino = tg from htg.symm)
                      have hts : 1 ≤ tg.size ∧ tg.size ≤ 512 := by rw [htg, strOfNums_size]; have := link_len H1.out.2.2.2 HA.out ht2; omega
                      obtain ⟨w6, hw6⟩ : ∃ w6, w6 = w5.drew := ⟨_, rfl⟩
                      have C6 := hide (show Below w5.heap.size w5 w6 from by rw [hw6]; exact (Below.refl _ _).drew)
                      rw [← hw6]
                      clear hw6 htg e1 e2
                      have hp0 : 0 ≤ hp := by rw [HHP.out]; omega
                      have hp8 : hp ≤ 8 := by rw [HHP.out]; omega
                      go_wp2_with (go_at_call 114; fail)
                      refine (implCutNames_any tg _ hts.2).mono ?_
                      rintro e w7 ⟨pv, rfl, ow, b7⟩
                      have B7 := hide (B5.out.trans ((C6.out.trans (b7.mono C6.out.size)).mono B5.out.size))
                      have C7 := hide (C6.out.trans (b7.mono C6.out.size))
                      have OW := hide ow
                      have S7 := hide b7.size
                      clear b7 ow
                      by_cases hlong : Spl.longN (Spl.names tg) = true
                      · rw [(cn_yes hlong).1]
                        have HG5 := hide (show R = (0, 12) from by rw [← HGf.out]; show (if Spl.longN (Spl.names (tgN L ino)) = true then _ else _) = _; rw [HTG.out, if_pos hlong])
                        obtain ⟨pa, pl, pc, rfl⟩ : ∃ a l c, pv = .slice a l c := by
                          rcases OW.out.2 with ⟨rfl, _⟩ | ⟨_, _, _, rfl, _⟩
                          · exact ⟨_, _, _, rfl⟩
                          · exact ⟨_, _, _, rfl⟩
                        clear hlong
                        go_wp2
                        try rw [Exit.noGoto_ret]
                        go_ret2
                        rw [HG5.out]
                        exact ⟨rfl, HBW.out _ B7.out⟩
                      · have hlf : Spl.longN (Spl.names tg) = false := by simpa using hlong
                        rw [(cn_no hlf).1]
                        have OW2 := OW.out
                        rw [(cn_no hlf).2] at OW2
                        go_upto_region 23 with fail
                        obtain ⟨i0, hi, hz0, hz1, hz2⟩ := info_parts infoStr
                        have hrr : w7.rangeAt b o2 (r.map Value.string) := (R5.out.below C7.out).range
                        have hcl2 : (Spl.names tg).length ≤ 40 := (long_no hlf).1
                        have hnr0 : n = r.length := HN.out
                        have hl2 : n + 1 ≤ 400 := by have := hlen.1; simp only [List.length_cons] at this; rw [hnr0]; omega
                        have hnr : n = r.length := HN.out
                        go_wp2_with (at_builtin; refine wpList_append_own _ rfl (.tmp 105) (.tmp 106) 57 rfl w6.heap.size 9 i0 (.string ⟨#[]⟩) 1 16 Tryz.underlying57 hi hz0 hz1 hz2 rfl (by decide) _ _ _ rfl OW2 ⟨b, o2, none⟩ n (cap - 1) (r.map Value.string) rfl (by simp [hnr]) (fun j u hu => by rw [Addr.add_mid]; exact hrr j u hu) (by intro u hu; obtain ⟨x, _, rfl⟩ := List.mem_map.1 hu; rfl) (by unfold maxLen; omega) (by omega) S7.out ?_; intro v8 w8 o8 g8 _)
                        all_goals have hB8 : Below W1.heap.size W1 w8 := B7.out.grown g8 B7.out.size (fun k hk => by have h1 := (OW2.lt k hk).1; have h2 := B5.out.size; have h3 := C6.out.size; omega)
                        all_goals rename_i hx0 hx1
                        all_goals have htf := tg_first (ndAt L ino).d (HBD.out ino HA.out.2.1)
                        all_goals rw [show strOfNums (ndAt L ino).d = tg from HTG.out] at htf
                        all_goals have htf := htf hx0
                        · exact iwk_link (at_ := 1) hh HHP.out (AtN.root H1.out.2.2.2) o8 hnr hlen hlf (by rw [← HGf.out]; show _ = if Spl.longN (Spl.names (tgN L ino)) = true then _ else _; rw [HTG.out, if_neg hlong, if_pos (htf.1 hx1)]) hB8
                        · exact iwk_link (at_ := cur) hh HHP.out hat o8 hnr hlen hlf (by rw [← HGf.out]; show _ = if Spl.longN (Spl.names (tgN L ino)) = true then _ else _; rw [HTG.out, if_neg hlong, if_neg (fun e => by rw [htf.2 e] at hx1; cases hx1)]) hB8
                · have hfw : fw = false := by cases fw with
                    | false => rfl
                    | true => exact absurd (.inl rfl) hff
                  have hn0 : n = 0 := by
                    rcases Nat.eq_zero_or_pos n with h | h
                    · exact h
                    · exact absurd (.inr h) hff
                  have HGe := hide (show goH L uid gid fw h r ino = R from by rw [← HGo.out, HGK.out, if_neg (fun x => hff (x.2.elim .inl (fun hr => .inr (by rw [HN.out]; exact List.length_pos_iff.2 hr))))])
                  subst hkd hfw hn0
                  clear hff q0 c1 c5 c10 hp_
                  go_wp2
                  go_roundw
                  case rel => exact ⟨r, ino, h, hh, rfl, rfl, hA, R5.out, ⟨by have := hlen.1; simp at this; omega, fun x hx => hlen.2 x (List.mem_cons_of_mem _ hx)⟩, HGe.out, B5.out⟩
                  case measure => simp [lenV]
              · have hkb : ((kd : Int) == 3) = false := by simp; omega
                have HGe := hide (show goH L uid gid fw h r ino = R from by rw [← HGo.out, HGK.out, if_neg (fun x => hkd x.1)])
                clear hkd q0 c1 c5 c10 hp_
                go_wp2
                go_roundw
                case rel => exact ⟨r, ino, h, hh, rfl, rfl, hA, R5.out, ⟨by have := hlen.1; simp at this; omega, fun x hx => hlen.2 x (List.mem_cons_of_mem _ hx)⟩, HGe.out, B5.out⟩
                case measure => simp [lenV]
            · have hfi' : fiB (ndAt L cur).d nm = false := by simpa using hfi
              have HG2 := hide (show R = (0, 2) from by rw [← HGo.out, goH_ok L uid gid fw h cur nm r HEE.out, if_neg hdot, if_neg hup, fi_none hfi'])
              rw [hfi']
              clear hfi hfi'
              go_wp2
              rw [Exit.noGoto_ret]
              go_ret2
              rw [HG2.out]
              refine ⟨rfl, HBW.out _ ?_⟩
              exact B4.out.alloc B4.out.size _
      · have HG := hide (show R = (0, entC0 (ndAt L cur) uid gid) from by rw [← HGo.out, goH_no L uid gid fw h cur nm r he])
        obtain ⟨cd, hcd⟩ : ∃ cd, cd = entC0 (ndAt L cur) uid gid := ⟨_, rfl⟩
        rw [← hcd] at he HG ⊢
        have he' : (cd != 0) = true := by simpa using he
        clear hcd he
        go_wp2
        rw [Exit.noGoto_ret]
        go_ret2
        rw [HG.out]
        exact ⟨rfl, HBW.out _ B2.out⟩
end Go.Proofs.YtplieplmhdfndaaGreatDoor
