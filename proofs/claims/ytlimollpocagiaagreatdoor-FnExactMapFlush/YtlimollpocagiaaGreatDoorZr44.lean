/- The program's MapFlush: what it asks of the passes. The model's flush and the program's: what they begin and end with is the same. -/
import Derived.Test.YtlimollpocagiaaGreatDoorZr43
import Derived.Test.YtlimollpocagiaaGreatDoorZr30
import Derived.Test.YtlimollpocagiaaGreatDoorZr33
import Derived.Test.YtlimollpocagiaaGreatDoorZr18
namespace Go.Proofs.YtlimollpocagiaaGreatDoor
set_option linter.unusedVariables false
set_option linter.unusedSimpArgs false
open Go.RowKit Go.Shelf

theorem WfD.run {m n : Nat} (hn : n ≤ 2048) (bf ol : List Int) : ∀ (f : Nat) (s : FD), WfD m n s → WfD m n (runF m bf ol f s).1
  | 0, s, h => h
  | f + 1, s, h => by
    have h1 := (h.pass hn bf ol).1
    unfold runF
    split
    · exact WfD.run hn bf ol f _ h1
    · exact h1
theorem fd0_wf {m n : Nat} {ws : List Int} {cu : Int} (hw : ws.length = n) (hr : ∀ z ∈ ws, 0 ≤ z ∧ z < 4294967296) (hc : 2 ≤ cu ∧ cu < (n : Int)) : WfD m n (fd0 m ws cu) := by
  have e : ∀ k, (List.replicate (m + 1) (0 : Int)).getD k 0 = 0 := fun k => by
    simp [List.getD, List.getElem?_replicate]
    split <;> rfl
  refine ⟨hw, hr, by simp [fd0], fun k => .inl (e k), fun k => ?_, by simp [fd0], ?_⟩
  · constructor
    · intro h; simp [fd0] at h
    · intro h; exact absurd (e k) h
  · show 2 ≤ cu.toNat ∧ cu.toNat < n
    omega
theorem numL_bound {N : Nat} (hN : 0 < N) : ∀ (pre : List TX) (f : Nat → List Int), (∀ x ∈ pre, 0 ≤ x.1.2.2 ∧ x.1.2.2 < (N : Int)) → (∀ l k, 0 ≤ (f l).getD k 0 ∧ (f l).getD k 0 < (N : Int)) → ∀ l k, 0 ≤ ((pre.foldl (fun f x => upd f x.1.1 (setN (f x.1.1) x.1.2.1 x.1.2.2)) f) l).getD k 0 ∧ ((pre.foldl (fun f x => upd f x.1.1 (setN (f x.1.1) x.1.2.1 x.1.2.2)) f) l).getD k 0 < (N : Int)
  | [], f, _, h => h
  | x :: pre, f, hx, h => by
    refine numL_bound hN pre _ (fun y hy => hx y (List.mem_cons_of_mem _ hy)) (fun l k => ?_)
    show 0 ≤ (upd f x.1.1 (setN (f x.1.1) x.1.2.1 x.1.2.2) l).getD k 0 ∧ (upd f x.1.1 (setN (f x.1.1) x.1.2.1 x.1.2.2) l).getD k 0 < (N : Int)
    unfold upd
    split
    · rw [setN_getD]
      split
      · exact hx x (List.mem_cons_self ..)
      · exact h _ k
    · exact h l k
theorem ol_bound {zs : List Int} {s : Int} {ds : List Int} {p q : Int} {m n : Nat} (hn : 0 < n) (hz : n = zs.length / 512) : ∀ k, k < m + 1 → 0 ≤ (olL m (lsM zs s ds p q)).getD k 0 ∧ (olL m (lsM zs s ds p q)).getD k 0 < (n : Int) := by
  have h := numL_bound hn (upX (ZR zs s ds p q).1) (fun _ => []) (fun x hx => by
    unfold upX at hx
    obtain ⟨g, hg, rfl⟩ := List.mem_map.1 hx
    have hG := tops_mem hg
    have h1 := hG.1
    have h2 := hG.2.1
    rw [← hz] at h1
    unfold goodP at h1
    simp at h1
    show 0 ≤ g.2.2 ∧ g.2.2 < (n : Int)
    omega) (fun l k => by simp; omega)
  intro k hk
  rcases Nat.lt_or_ge k m with h1 | h1
  · rw [olL_0 _ h1]; exact h 0 k
  · obtain rfl : k = m := by omega
    rw [olL_1]; exact h 1 0
theorem right_words {ws : List Int} (h : rightM ws = true) : ∀ z ∈ ws, 0 ≤ z ∧ z < 4294967296 := by
  intro z hz
  obtain ⟨k, hk, rfl⟩ := List.getElem_of_mem hz
  obtain ⟨y, h1, h2⟩ := right_word ws h k hk
  have h3 : ws.getD k 0 = ws[k] := by simp [List.getD, hk]
  rw [h3] at h1
  rw [h1]
  omega
theorem OfR.split {w w' : World} {zs : List Int} {s : Int} {ds : List Int} {p q : Int} {ws : List Int} {cu : Int} {e : Ending} (h : OfR w w' zs s ds p q ws cu e) : ∃ pv ev, e = .returned (.tuple #[pv, ev]) ∧ ((∃ c k, pv = .pointer none ∧ Flt w' 0 k ev c ∧ ((mfOk zs s ds p q ws cu = false ∧ c = 7) ∨ (mfOk zs s ds p q ws cu = true ∧ (ZR zs s ds p q).2 = true ∧ c = 21))) ∨ (mfOk zs s ds p q ws cu = true ∧ (ZR zs s ds p q).2 = false ∧ ev = .nilIface ∧ ∃ b R, pv = .pointer (some ⟨b, 0, none⟩) ∧ w.heap.size ≤ b ∧ FlD w' w.heap.size b ((ws.length + 127) / 128) (bfL zs s ds p q ws.length) (olL ((ws.length + 127) / 128) (lsM zs s ds p q)) (fd0 ((ws.length + 127) / 128) ws cu) R (.slice none 0 0))) ∧ Below w.heap.size w w' := by
  obtain ⟨h, hb⟩ := h
  rcases h with ⟨h1, ev, k, rfl, h2⟩ | ⟨h1, h2, ev, k, rfl, h3⟩ | ⟨h1, h2, b, R, rfl, h3, h4⟩
  · exact ⟨_, _, rfl, .inl ⟨7, k, rfl, h2, .inl ⟨h1, rfl⟩⟩, hb⟩
  · exact ⟨_, _, rfl, .inl ⟨21, k, rfl, h3, .inr ⟨h1, h2, rfl⟩⟩, hb⟩
  · exact ⟨_, _, rfl, .inr ⟨h1, h2, rfl, b, R, rfl, h3, h4⟩, hb⟩
/-- The end of the passes. -/
def mfT (zs : List Int) (s : Int) (ds : List Int) (p q : Int) (ws : List Int) (cu : Int) : FD × Bool := runF ((ws.length + 127) / 128) (bfL zs s ds p q ws.length) (olL ((ws.length + 127) / 128) (lsM zs s ds p q)) ((ws.length + 127) / 128 + 2) (fd0 ((ws.length + 127) / 128) ws cu)
def mfG (zs : List Int) (s : Int) (ds : List Int) (p q : Int) (ws : List Int) (cu : Int) : Nat → Int := nowF ((ws.length + 127) / 128) (olL ((ws.length + 127) / 128) (lsM zs s ds p q)) (mfT zs s ds p q ws cu).1.pl (mfT zs s ds p q ws cu).1.od
def mfC (zs : List Int) (s : Int) (ds : List Int) (p q : Int) (ws : List Int) (cu : Int) : Int := if mfOk zs s ds p q ws cu = false then 7 else if (ZR zs s ds p q).2 = true then 21 else if (mfT zs s ds p q ws cu).2 = false then 9 else 0
def zMO : Array Value := #[.int .i64 0, .int .i64 0, .int .i64 0, .int .i64 0, .int .i64 0, .int .i64 0, .int .i64 0, .int .i64 0, .int .i64 0, .int .i64 0, .int .i64 0, .int .i64 0, .int .i64 0, .int .i64 0, .int .i64 0, .slice none 0 0, .int .i64 0, .slice none 0 0]
/-- What the program's MapFlush answers. -/
def MfR (w w' : World) (zs : List Int) (s : Int) (ds : List Int) (p q : Int) (ws : List Int) (cu : Int) (e : Ending) : Prop :=
  ((mfC zs s ds p q ws cu ≠ 0 ∧ e = .returned (.tuple #[.agg zMO, .int .i64 (mfC zs s ds p q ws cu)])) ∨
   (mfC zs s ds p q ws cu = 0 ∧ ∃ wv pv vs, e = .returned (.tuple #[.agg (((rootF ((ws.length + 127) / 128) ws.length (mfG zs s ds p q ws cu)).map (Value.int .i64) ++ [wv, .int .i64 ((mfT zs s ds p q ws cu).1.cu : Int), pv]).toArray), .int .i64 0]) ∧ w'.ownsRow w.heap.size 3 1 wv ws.length ((mfT zs s ds p q ws cu).1.ws.map (Value.int .i64)) ∧ OwnN w' w.heap.size 44 1 pv (((mfT zs s ds p q ws cu).1.od.map (putF ((ws.length + 127) / 128) (mfT zs s ds p q ws cu).1.ws (mfG zs s ds p q ws cu))).map neP) vs)) ∧ Below w.heap.size w w'
set_option maxRecDepth 100000 in
set_option maxHeartbeats 4000000 in
theorem implMF_any (iv wv : Value) (zs ws : List Int) (s : Int) (ds : List Int) (p q cu : Int) (w : World) (h : Rd .u8 w iv zs) (hz : zs.length ≤ 1048576) (hbd : ∀ z ∈ zs, 0 ≤ z ∧ z < 256) (hd : ds.length = 12) (hw : Rd .i64 w wv ws) (hwn : ws.length ≤ 1048576) (hg : ErrT w) :
    Calls Tryz.prog 8 #[iv, .agg (cellsI (rootI s ds p q)), wv, .int .i64 cu] w fun e w' => MfR w w' zs s ds p q ws cu e := by
  obtain ⟨ia, ic, rfl⟩ := rd_shapeT h
  obtain ⟨wa, wc, rfl⟩ := rd_shapeT hw
  obtain ⟨RT, hRT⟩ : ∃ RT, RT = cellsI (rootI s ds p q) := ⟨_, rfl⟩
  have HInR := hide (show (Tryz.prog.info? 28).map (·.size) = some RT.size from by rw [hRT, cellsI_size, rootI_len s ds p q hd]; exact info15)
  obtain ⟨ZM, hZM⟩ : ∃ ZM, ZM = zMO := ⟨_, rfl⟩
  have HZM := hide hZM
  have HInZ := hide (show (Tryz.prog.info? 34).map (·.size) = some ZM.size from by rw [hZM]; exact infoMO)
  have HOZ := hide (show ZM.all (·.oneCell') = true from by rw [hZM]; unfold zMO; simp only [List.all_toArray, List.all_cons, List.all_nil]; rfl)
  obtain ⟨W1, hW1⟩ : ∃ W1, W1 = (w.alloc (.cells RT 28)).alloc (.cells ZM 34) := ⟨_, rfl⟩
  have HW1 := hide hW1
  have K1 := hide (show Blk W1 w.heap.size RT 28 from by rw [hW1]; exact (Blk.new _ _ _).alloc _)
  have Z1 := hide (show Blk W1 (w.heap.size + 1) ZM 34 from by rw [hW1]; have h := Blk.new (w.alloc (.cells RT 28)) ZM 34; rw [World.size_alloc] at h; exact h)
  have B1 := hide (show Below w.heap.size w W1 from by rw [hW1]; exact ((Below.refl _ _).alloc (Nat.le_refl _) _).alloc (by simp) _)
  have HOp := hide (show Calls Tryz.prog 26 #[.slice ia zs.length ic, .agg RT, .slice wa ws.length wc, .int .i64 cu] W1 fun e w' => OfR W1 w' zs s ds p q ws cu e from by
    rw [hRT]
    exact openFlush_any _ _ zs ws s ds p q cu W1 (h.below B1.out) hz hbd hd (hw.below B1.out) hwn)
  obtain ⟨zn, hzn⟩ : ∃ zn, zn = zs.length := ⟨_, rfl⟩
  obtain ⟨n, hn⟩ : ∃ n, n = ws.length := ⟨_, rfl⟩
  have HNN := hide (And.intro hzn hn)
  have HG := hide hg
  rw [← hzn, ← hn] at HOp
  rw [← hRT, ← hzn, ← hn]
  clear h hw hd hbd hRT hZM hW1 hzn hn hz hwn hg
  go_enter Tryz.func8, Tryz.ntmps8
  go_upto_region 1 with fail
  rw [show (#[.int .i64 0, .int .i64 0, .int .i64 0, .int .i64 0, .int .i64 0, .int .i64 0, .int .i64 0, .int .i64 0, .int .i64 0, .int .i64 0, .int .i64 0, .int .i64 0, .int .i64 0, .int .i64 0, .int .i64 0, .slice none 0 0, .int .i64 0, .slice none 0 0] : Array Value) = ZM from HZM.out.symm, ← HW1.out]
  go_upto_region 2 with (first
    | (refine wpList_load_row rfl 28 _ rfl w.heap.size rfl 28 RT (0, 0) _ K1.out Tryz.underlying28 rfl HInR.out ?_)
    | (go_at_call 26
       refine HOp.out.mono ?_
       rintro e w2 hR
       obtain ⟨pv, ev, rfl, hcase, b2⟩ := hR.split
       have B2 := hide b2
       have Z2 := hide (Z1.out.below b2 Z1.out.lt)
       have HC := hide hcase
       clear b2 hR hcase)
    | fail)
  have hs1 : w.heap.size + 2 ≤ W1.heap.size := Z1.out.lt
  have G2 := hide ((HG.out.below B1.out).below B2.out)
  have BW2 := hide (show Below w.heap.size w w2 from B1.out.trans (B2.out.mono B1.out.size))
  rcases HC.out with ⟨c, k, rfl, hf, hcc⟩ | ⟨hok, hz2, rfl, b, R, rfl, hb, hFl⟩
  · obtain ⟨t', x', rfl⟩ := hf.iface
    have HF := hide (And.intro hf hcc)
    clear hf hcc
    go_wp2_with (first
      | (go_at_call 27
         refine (codeOf_any k _ c _ _ HF.out.1 G2.out).mono ?_
         rintro e w3 ⟨rfl, b3⟩
         have B3 := hide b3
         have Z3 := hide (Z2.out.below b3 Z2.out.lt)
         clear b3)
      | (refine wpList_store_row rfl 34 _ _ rfl (w.heap.size + 1) (#[.int .i64 0, .int .i64 0, .int .i64 0, .int .i64 0, .int .i64 0, .int .i64 0, .int .i64 0, .int .i64 0, .int .i64 0, .int .i64 0, .int .i64 0, .int .i64 0, .int .i64 0, .int .i64 0, .int .i64 0, .slice none 0 0, .int .i64 0, .slice none 0 0] : Array Value) rfl rfl 34 ZM Z3.out infoMO (by rw [HZM.out]; rfl) (by have := HOZ.out; rw [HZM.out] at this; exact this) ?_)
      | fail)
    refine bodyPost_ret (v := .tuple #[.agg zMO, .int .i64 c]) ?_ rfl ⟨.inl ?_, below_setRow (BW2.out.trans (B3.out.mono BW2.out.size)) (by omega) _⟩
    · exact results_row_tmp rfl _ _ (w.heap.size + 1) 34 _ (0, 0) _ _ rfl rfl (Z3.out.row _) Tryz.underlying34 rfl infoMO
    · have e : mfC zs s ds p q ws cu = c := by
        unfold mfC
        rcases HF.out.2 with ⟨h1, rfl⟩ | ⟨h1, h2, rfl⟩
        · rw [if_pos h1]
        · rw [if_neg (by rw [h1]; decide), if_pos h2]
      rw [e]
      refine ⟨?_, rfl⟩
      rcases HF.out.2 with ⟨h1, rfl⟩ | ⟨h1, h2, rfl⟩ <;> decide
  · obtain ⟨hsa, hsb, hnz, hsn, hcu⟩ := mfOk_facts hok
    have hrm : rightM ws = true := by unfold mfOk at hok; simp only [Bool.and_eq_true] at hok; exact hok.1.1.1.2
    have hlen := right_len ws hrm
    obtain ⟨T, hT⟩ : ∃ T, T = mfT zs s ds p q ws cu := ⟨_, rfl⟩
    have hwf := fd0_wf (m := ((ws.length + 127) / 128)) (n := ws.length) rfl (right_words hrm) hcu
    have hbl : (bfL zs s ds p q ws.length).length = ws.length := by unfold bfL; rw [List.length_append, dec_len, List.length_replicate]; omega
    have HWf := hide (show WfD ((ws.length + 127) / 128) ws.length T.1 from by rw [hT]; exact WfD.run hlen.2 _ _ _ _ hwf)
    have HPa := hide (passes_any W1.heap.size b ((ws.length + 127) / 128) ws.length (bfL zs s ds p q ws.length) (olL ((ws.length + 127) / 128) (lsM zs s ds p q)) R _ (fd0 ((ws.length + 127) / 128) ws cu) w2 hFl hwf rfl hlen.2 hbl (ol_bound (by omega) hnz) B2.out.size T hT.symm)
    have HFl := hide hFl
    have HT := hide hT
    have HOk := hide (And.intro hok (And.intro hz2 hlen))
    have HB := hide hb
    clear hsa hsb hnz hsn hcu hrm hlen hT hwf hbl hFl hok hz2 hb
    obtain ⟨T1, tq⟩ := T
    cases tq with
    | false =>
      go_wp2_with (first
        | (go_at_call 28
           refine HPa.out.mono ?_
           rintro e w3 ⟨rfl, R', vo', hF3, hK3⟩
           obtain ⟨C0, L0, f0, _⟩ := HFl.out
           have b3 : Below W1.heap.size w2 w3 := hK3.below f0 HB.out B2.out.size
           have BW3 := hide (show Below w.heap.size w w3 from BW2.out.trans (b3.mono (by omega)))
           have Z3 := hide (Z2.out.below b3 (by omega))
           clear b3 f0 hF3 hK3)
        | (refine wpList_store_row rfl 34 _ _ rfl (w.heap.size + 1) (#[.int .i64 0, .int .i64 0, .int .i64 0, .int .i64 0, .int .i64 0, .int .i64 0, .int .i64 0, .int .i64 0, .int .i64 0, .int .i64 0, .int .i64 0, .int .i64 0, .int .i64 0, .int .i64 0, .int .i64 0, .slice none 0 0, .int .i64 0, .slice none 0 0] : Array Value) rfl rfl 34 ZM Z3.out infoMO (by rw [HZM.out]; rfl) (by have := HOZ.out; rw [HZM.out] at this; exact this) ?_)
        | fail)
      refine bodyPost_ret (v := .tuple #[.agg zMO, .int .i64 9]) ?_ rfl ⟨.inl ?_, below_setRow BW3.out (by omega) _⟩
      · exact results_row_tmp rfl _ _ (w.heap.size + 1) 34 _ (0, 0) _ _ rfl rfl (Z3.out.row _) Tryz.underlying34 rfl infoMO
      · have e : mfC zs s ds p q ws cu = 9 := by
          unfold mfC
          rw [if_neg (by rw [HOk.out.1]; decide), if_neg (by rw [HOk.out.2.1]; decide), if_pos (by rw [← HT.out])]
        rw [e]
        exact ⟨by decide, rfl⟩
    | true =>
      go_wp2_with (first
        | (go_at_call 28
           refine HPa.out.mono ?_
           rintro e w3 ⟨rfl, R', vo', hF3, hK3⟩
           obtain ⟨C0, L0, f0, _⟩ := HFl.out
           have b3 : Below W1.heap.size w2 w3 := hK3.below f0 HB.out B2.out.size
           have BW3 := hide (show Below w.heap.size w w3 from BW2.out.trans (b3.mono (by omega)))
           have Z3 := hide (Z2.out.below b3 (by omega))
           have HS3 := hide (show W1.heap.size ≤ w3.heap.size from Nat.le_trans B2.out.size b3.size)
           have HF3 := hide hF3
           have HOu := hide (out_any W1.heap.size b ((ws.length + 127) / 128) ws.length (bfL zs s ds p q ws.length) (olL ((ws.length + 127) / 128) (lsM zs s ds p q)) R' vo' T1 w3 hF3 HWf.out rfl HOk.out.2.2.2 (HG.out.below BW3.out))
           clear b3 f0 hF3 hK3)
        | (go_at_call 29
           refine HOu.out.mono ?_
           rintro e w4 ⟨pv, vs, rfl, o4, b4⟩
           obtain ⟨C0, L0, f3, r3⟩ := HF3.out
           have R4 := hide (show w4.ownsRow W1.heap.size 3 1 (R' 1) ws.length (T1.ws.map (Value.int .i64)) from by
             have h := own_belowT (f3.row 1 (by omega)) b4
             rw [r3.ws, HWf.out.wl] at h
             exact h)
           obtain ⟨pa, pc, hpv⟩ := own_shape o4.row
           obtain ⟨ra, rc, hrv⟩ := own_shape R4.out
           obtain ⟨MO, hMO⟩ : ∃ MO, MO = ((rootF ((ws.length + 127) / 128) ws.length (nowF ((ws.length + 127) / 128) (olL ((ws.length + 127) / 128) (lsM zs s ds p q)) T1.pl T1.od)).map (Value.int .i64) ++ [R' 1, .int .i64 (T1.cu : Int), pv]).toArray := ⟨_, rfl⟩
           rw [← hMO]
           have HSM := hide (show MO.size = 18 from by rw [hMO]; simp [rootF])
           have HInM := hide (show (Tryz.prog.info? 34).map (·.size) = some MO.size from by rw [HSM.out]; exact infoMO)
           have HOM := hide (show MO.all (·.oneCell') = true from by
             rw [hMO]
             refine all_oneCell_toArray (fun v hv => ?_)
             rcases List.mem_append.1 hv with hv | hv
             · obtain ⟨z, _, rfl⟩ := List.mem_map.1 hv; rfl
             · simp at hv
               rcases hv with rfl | rfl | rfl
               · rw [hrv]; rfl
               · rfl
               · rw [hpv]; rfl)
           have H4 := hide (And.intro o4 (And.intro b4 hMO))
           have Z4 := hide (Z3.out.below b4 Z3.out.lt)
           clear o4 b4 hMO hpv hrv f3 r3)
        | (refine wpList_store_row rfl 34 _ _ rfl (w.heap.size + 1) MO rfl rfl 34 ZM Z4.out HInM.out (by rw [HZM.out, HSM.out]; rfl) HOM.out ?_)
        | fail)
      have hs3 := HS3.out
      refine bodyPost_ret (v := .tuple #[.agg MO, .int .i64 0]) ?_ rfl ⟨.inr ⟨?_, R' 1, pv, vs, ?_, ?_, ?_⟩, below_setRow (BW3.out.trans (H4.out.2.1.mono BW3.out.size)) (by omega) _⟩
      · exact results_row_tmp rfl _ _ (w.heap.size + 1) 34 _ (0, 0) _ _ rfl rfl (Z4.out.row _) Tryz.underlying34 rfl HInM.out
      · unfold mfC
        rw [if_neg (by rw [HOk.out.1]; decide), if_neg (by rw [HOk.out.2.1]; decide), if_neg (by rw [← HT.out]; simp)]
      · unfold mfG
        rw [← HT.out, H4.out.2.2]
      · rw [← HT.out]
        exact own_mono (own_sameJ R4.out (fun r hr => setRow_other w4 (w.heap.size + 1) r MO (by omega))) (by omega)
      · unfold mfG
        rw [← HT.out]
        exact OwnN.mono (H4.out.1.sameJ (fun r hr => setRow_other w4 (w.heap.size + 1) r MO (by omega))) (by omega)
end Go.Proofs.YtlimollpocagiaaGreatDoor

namespace Go.Proofs.YtlimollpocagiaaGreatDoor
set_option linter.unusedVariables false
set_option linter.unusedSimpArgs false
open Go.RowKit

theorem numL_look {l k : Nat} {v : Int} : ∀ (pre : List TX) (f : Nat → List Int), (∀ x ∈ pre, x.1.1 = l → x.1.2.1 = k → x.1.2.2 = v) →
    (((pre.foldl (fun f x => upd f x.1.1 (setN (f x.1.1) x.1.2.1 x.1.2.2)) f) l).getD k 0 = v ∧ ∃ x ∈ pre, x.1.1 = l ∧ x.1.2.1 = k) ∨ (((pre.foldl (fun f x => upd f x.1.1 (setN (f x.1.1) x.1.2.1 x.1.2.2)) f) l).getD k 0 = (f l).getD k 0 ∧ ¬ ∃ x ∈ pre, x.1.1 = l ∧ x.1.2.1 = k)
  | [], f, _ => .inr ⟨rfl, fun ⟨x, hx, _⟩ => by cases hx⟩
  | x :: pre, f, h => by
    rw [List.foldl_cons]
    rcases numL_look pre (upd f x.1.1 (setN (f x.1.1) x.1.2.1 x.1.2.2)) (fun y hy => h y (List.mem_cons_of_mem _ hy)) with ⟨h1, y, hy, h2⟩ | ⟨h1, h2⟩
    · exact .inl ⟨h1, y, List.mem_cons_of_mem _ hy, h2⟩
    · by_cases hl : x.1.1 = l
      · by_cases hk : x.1.2.1 = k
        · refine .inl ⟨?_, x, List.mem_cons_self, hl, hk⟩
          rw [h1, ← hl, upd_same, setN_getD, if_pos hk.symm]
          exact h x List.mem_cons_self hl hk
        · refine .inr ⟨?_, fun ⟨y, hy, h3⟩ => ?_⟩
          · rw [h1, ← hl, upd_same, setN_getD, if_neg (fun e => hk e.symm)]
          · rcases List.mem_cons.1 hy with rfl | hy
            · exact hk h3.2
            · exact h2 ⟨y, hy, h3⟩
      · refine .inr ⟨?_, fun ⟨y, hy, h3⟩ => ?_⟩
        · rw [h1, upd_other _ _ _ _ (fun e => hl e.symm)]
        · rcases List.mem_cons.1 hy with rfl | hy
          · exact hl h3.1
          · exact h2 ⟨y, hy, h3⟩
section
variable {cnt : Nat} {W : Int → Nat → Int} {D : Nat → Int} {S X : Int}
theorem listR_mem0 (hc : cnt ≤ 512) {h : HG} (hm : h ∈ listR cnt W D S X) (h0 : h.1 = 0) : h.2.1 < cnt ∧ h.2.2 = datP W D S X h.2.1 := by
  have h1 : h ∈ (listR cnt W D S X).filter (fun h => h.1 == 0) := List.mem_filter.2 ⟨hm, by simp [h0]⟩
  rw [listR_data hc] at h1
  unfold datL at h1
  obtain ⟨r, hr, h2⟩ := List.mem_flatMap.1 h1
  have hr' := List.mem_range.1 hr
  split at h2
  · cases h2
  · rw [List.mem_singleton] at h2; subst h2; exact ⟨hr', rfl⟩
theorem listR_has0 (hc : cnt ≤ 512) {k : Nat} (hk : k < cnt) (hn : datP W D S X k ≠ 0) : ((0, k, datP W D S X k) : HG) ∈ listR cnt W D S X := by
  have h1 : ((0, k, datP W D S X k) : HG) ∈ datL cnt W D S X := by
    unfold datL
    refine List.mem_flatMap.2 ⟨k, List.mem_range.2 hk, ?_⟩
    rw [if_neg hn]
    exact List.mem_singleton.2 rfl
  rw [← listR_data hc] at h1
  exact (List.mem_filter.1 h1).1
theorem seg_lev {b m : Nat} {f : Nat → Int} {h : HG} (hm : h ∈ segP cnt b m f) : h.1 = 0 := by
  unfold segP at hm
  obtain ⟨r, hr, h2⟩ := List.mem_flatMap.1 hm
  split at h2
  · cases h2
  · rw [List.mem_singleton] at h2; rw [h2]
theorem hd1_mem {r : Nat} {p : Int} {h : HG} (hm : h ∈ hd1P cnt r p) : h = (1, r, p) := by
  unfold hd1P at hm
  split at hm
  · cases hm
  · exact List.mem_singleton.1 hm
theorem hd2_mem {p : Int} {h : HG} (hm : h ∈ hd2P cnt p) : h.1 = 2 := by
  unfold hd2P at hm
  split at hm
  · cases hm
  · rw [List.mem_singleton.1 hm]
theorem listR_mem1 {h : HG} (hm : h ∈ listR cnt W D S X) (h0 : h.1 = 1) (h1 : h.2.1 = 0) : h.2.2 = S := by
  unfold listR at hm
  rcases List.mem_append.1 hm with hm | hm
  · have := seg_lev hm; omega
  rcases List.mem_append.1 hm with hm | hm
  · rcases List.mem_append.1 hm with hm | hm
    · rw [hd1_mem hm]
    · have := seg_lev hm; omega
  rcases List.mem_append.1 hm with hm | hm
  · have := hd2_mem hm; omega
  obtain ⟨r, hr, h2⟩ := List.mem_flatMap.1 hm
  rcases List.mem_append.1 h2 with h2 | h2
  · have h3 := hd1_mem h2
    rw [h3] at h1
    simp at h1
  · have := seg_lev h2; omega
theorem listR_has1 (hc : 12 < cnt) (hn : S ≠ 0) : ((1, 0, S) : HG) ∈ listR cnt W D S X := by
  unfold listR
  refine List.mem_append.2 (.inr (List.mem_append.2 (.inl (List.mem_append.2 (.inl ?_)))))
  unfold hd1P
  rw [if_neg (by omega)]
  exact List.mem_singleton.2 rfl
theorem upX_mem {L : List HG} {x : TX} (h : x ∈ upX L) : x.1 ∈ L := by
  unfold upX at h
  obtain ⟨g, hg, rfl⟩ := List.mem_map.1 h
  exact hg
theorem mem_upX {L : List HG} {h : HG} (hm : h ∈ L) : (h, Value.nilIface) ∈ upX L := by
  unfold upX
  exact List.mem_map.2 ⟨h, hm, rfl⟩
theorem num_data (hc : cnt ≤ 512) (k : Nat) : (numL (upX (listR cnt W D S X)) 0).getD k 0 = if k < cnt then datP W D S X k else 0 := by
  unfold numL
  rcases numL_look (l := 0) (k := k) (v := datP W D S X k) (upX (listR cnt W D S X)) (fun _ => []) (fun x hx h0 h1 => by
    have := (listR_mem0 hc (upX_mem hx) h0).2
    rw [this, h1]) with ⟨h1, x, hx, h2, h3⟩ | ⟨h1, h2⟩
  · rw [h1, if_pos (by have := (listR_mem0 hc (upX_mem hx) h2).1; omega)]
  · rw [h1]
    by_cases hk : k < cnt
    · rw [if_pos hk]
      by_cases hz : datP W D S X k = 0
      · rw [hz]; rfl
      · exact absurd ⟨_, mem_upX (listR_has0 hc hk hz), rfl, rfl⟩ h2
    · rw [if_neg hk]; rfl
theorem num_single (hs : cnt ≤ 12 → S = 0) : (numL (upX (listR cnt W D S X)) 1).getD 0 0 = S := by
  unfold numL
  rcases numL_look (l := 1) (k := 0) (v := S) (upX (listR cnt W D S X)) (fun _ => []) (fun x hx h0 h1 => listR_mem1 (upX_mem hx) h0 h1) with ⟨h1, _⟩ | ⟨h1, h2⟩
  · exact h1
  · rw [h1]
    by_cases hz : S = 0
    · rw [hz]; rfl
    · by_cases hc : 12 < cnt
      · exact absurd ⟨_, mem_upX (listR_has1 hc hz), rfl, rfl⟩ h2
      · exact absurd (hs (by omega)) hz
end
/-- The model's data blocks. -/
def datM (zs : List Int) (s : Int) (ds : List Int) (p q : Int) : List Int := (List.range ((s.toNat + 511) / 512)).map (datP (wrdP zs) (fun i => ds.getD i 0) p q)
theorem datM_len (zs : List Int) (s : Int) (ds : List Int) (p q : Int) : (datM zs s ds p q).length = (s.toNat + 511) / 512 := by simp [datM]
theorem datM_get (zs : List Int) (s : Int) (ds : List Int) (p q : Int) (k : Nat) : (datM zs s ds p q).getD k 0 = if k < (s.toNat + 511) / 512 then datP (wrdP zs) (fun i => ds.getD i 0) p q k else 0 := by
  unfold datM
  by_cases h : k < (s.toNat + 511) / 512
  · rw [if_pos h]; simp [List.getD, h]
  · rw [if_neg h]
    have h2 : ((List.range ((s.toNat + 511) / 512)).map (datP (wrdP zs) (fun i => ds.getD i 0) p q)).length ≤ k := by simp; omega
    rw [List.getD_eq_getElem?_getD, List.getElem?_eq_none h2]
    rfl
theorem ol_model {zs : List Int} {s : Int} {ds : List Int} {p q : Int} (hd : ds.length = 12) (hok : okR zs s ds p q = true) (hz : (ZR zs s ds p q).2 = false) (m : Nat) : (∀ k, k < m → (olL m (lsM zs s ds p q)).getD k 0 = (datM zs s ds p q).getD k 0) ∧ (olL m (lsM zs s ds p q)).getD m 0 = p := by
  have hr : rightR s ds p q = true := by unfold okR at hok; rw [Bool.and_eq_true] at hok; exact hok.2
  have hR := right_rootP hd hr
  rcases ZR_two hd hok with ⟨h1, h2⟩ | ⟨h1, h2⟩
  · refine ⟨fun k hk => ?_, ?_⟩
    · rw [olL_0 _ hk]
      unfold lsM
      rw [h2, num_data hR.c, datM_get]
    · rw [olL_1]
      unfold lsM
      rw [h2, num_single hR.s]
  · rw [h2] at hz; cases hz
/-- The words before, as the model reads them. -/
def oldM (B : List Int) (k : Nat) : List Int := (List.range k).map fun b => if 4 * b < B.length then wordAt B b else 0
theorem oldM_len (B : List Int) (k : Nat) : (oldM B k).length = k := by simp [oldM]
theorem oldM_succ (B : List Int) (k : Nat) : oldM B (k + 1) = oldM B k ++ [if 4 * k < B.length then wordAt B k else 0] := by
  unfold oldM
  rw [List.range_succ, List.map_append]
  rfl
theorem bf_model {zs : List Int} {s : Int} {ds : List Int} {p q : Int} (hbd : ∀ z ∈ zs, 0 ≤ z ∧ z < 256) (hd : ds.length = 12) (hok : okR zs s ds p q = true) (hz : (ZR zs s ds p q).2 = false) (n : Nat) (hs : s = 0 ∨ s = 4 * (n : Int)) : bfL zs s ds p q n = oldM (mrB zs s ds p q) n ∧ (mrB zs s ds p q).length = s.toNat ∧ ∀ z ∈ mrB zs s ds p q, 0 ≤ z ∧ z < 256 := by
  have e : mrB zs s ds p q = contP zs s.toNat (upX (ZR zs s ds p q).1) := by rw [← trB_same hd]; unfold trB; rw [if_pos ⟨hok, hz⟩]
  rw [e]
  have hl : (contP zs s.toNat (upX (ZR zs s ds p q).1)).length = s.toNat := by
    unfold contP
    rw [(cont_boundK zs hbd _ _ (fun z hz => by rw [List.eq_of_mem_replicate hz]; omega)).1, List.length_replicate]
  refine ⟨?_, hl, cont_bytes hbd⟩
  unfold bfL oldM
  rw [hl]
  rcases hs with rfl | rfl
  · show decTo _ (0 / 4) ++ List.replicate (n - 0 / 4) 0 = _
    rw [show 0 / 4 = 0 from rfl, Nat.sub_zero]
    show [] ++ _ = _
    rw [List.nil_append]
    refine List.ext_getElem? (fun i => ?_)
    by_cases hi : i < n
    · simp [hi]
    · simp [hi]
  · have e4 : (4 * (n : Int)).toNat = 4 * n := by omega
    rw [e4, Nat.mul_div_cancel_left _ (by omega), Nat.sub_self, List.replicate_zero, List.append_nil]
    unfold decTo
    refine List.map_congr_left (fun k hk => ?_)
    rw [if_pos (by have := List.mem_range.1 hk; omega)]
theorem now_same {m n : Nat} {bf ol D : List Int} {sg : Int} {s : FD} (hw : WfD m n s) (ho : ∀ k, k < m → ol.getD k 0 = D.getD k 0) (hm : ol.getD m 0 = sg) (hod : ∀ j ∈ s.od, j ∈ posL m) : (∀ k, k < m → nowF m ol s.pl s.od k = if s.pl.getD k 0 = 0 then D.getD k 0 else s.pl.getD k 0) ∧ (12 < m → nowF m ol s.pl s.od m = if s.pl.getD m 0 = 0 then sg else s.pl.getD m 0) ∧ (¬ 12 < m → nowF m ol s.pl s.od m = 0) ∧ ∀ k ∈ s.od, nowF m ol s.pl s.od k = s.pl.getD k 0 := by
  have key : ∀ k, k ∈ posL m → nowF m ol s.pl s.od k = if s.pl.getD k 0 = 0 then ol.getD k 0 else s.pl.getD k 0 := fun k hk => by
    unfold nowF gIn
    by_cases h : k ∈ s.od
    · rw [if_pos h, if_neg ((hw.on k).1 h)]
    · rw [if_neg h, if_pos hk, if_pos (Classical.byContradiction fun h2 => h ((hw.on k).2 h2))]
  refine ⟨fun k hk => ?_, fun h12 => ?_, fun h12 => ?_, fun k hk => ?_⟩
  · rw [key k (by unfold posL; exact List.mem_append.2 (.inl (List.mem_range.2 hk))), ho k hk]
  · rw [key m (by unfold posL; rw [if_pos h12]; exact List.mem_append.2 (.inr (List.mem_singleton.2 rfl))), hm]
  · have hn : m ∉ posL m := fun h => by
      unfold posL at h
      rw [if_neg h12, List.append_nil] at h
      have := List.mem_range.1 h
      omega
    unfold nowF gIn
    rw [if_neg (fun h => hn (hod m h)), if_neg hn]
  · unfold nowF
    rw [if_pos hk]
theorem far_same (m : Nat) (g g' : Nat → Int) (h : ∀ k, k < m → g k = g' k) : farTo m g 128 = farW m g' := by
  unfold farTo farW
  refine List.map_congr_left (fun j hj => ?_)
  by_cases hjm : 12 + j < m
  · rw [if_pos hjm, if_pos hjm, h _ hjm]
  · rw [if_neg hjm, if_neg hjm]
theorem root_same (m n : Nat) (g g' : Nat → Int) (sp : Int) (h : ∀ k, k < m → g k = g' k) (h1 : 12 < m → g' m = sp) (h2 : ¬ 12 < m → g' m = 0) : rootM m n g sp = cellsI (rootF m n g') := by
  unfold rootM
  by_cases h12 : 12 < m
  · rw [if_pos h12]
    have e : (cellsI (rootTo n g 12)).setIfInBounds 13 (.int .i64 sp) = cellsI ((rootTo n g 12).set 13 sp) := by unfold cellsI; simp [List.map_set]
    rw [e]
    refine congrArg cellsI ?_
    unfold rootTo rootF
    rw [List.set_cons_succ, h1 h12]
    refine congrArg (List.cons _) ?_
    refine List.ext_getElem? (fun i => ?_)
    rw [List.getElem?_set]
    by_cases h3 : 12 = i
    · subst h3; simp
    · rw [if_neg h3]
      by_cases hi : i < 14
      · simp only [List.getElem?_map, List.getElem?_range hi, Option.map_some]
        by_cases h4 : i < 12
        · rw [if_pos h4, if_pos h4, if_pos (by omega), h i (by omega)]
        · rw [if_neg h4, if_neg h4, if_neg (fun e => h3 e.symm)]
      · simp [hi]
  · rw [if_neg h12]
    refine congrArg cellsI ?_
    unfold rootTo rootF
    rw [h2 h12]
    refine congrArg (List.cons _) (List.map_congr_left (fun j hj => ?_))
    by_cases hj2 : j < 12
    · rw [if_pos hj2]
      by_cases hjm : j < m
      · rw [if_pos hjm, if_pos hjm, h j hjm]
      · rw [if_neg hjm, if_neg hjm]
    · rw [if_neg hj2, if_neg (by omega)]
      split <;> rfl
end Go.Proofs.YtlimollpocagiaaGreatDoor
