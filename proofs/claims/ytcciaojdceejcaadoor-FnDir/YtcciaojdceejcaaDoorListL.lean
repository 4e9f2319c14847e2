/- DirList of the program and of the model. -/
import Derived.Test.YtcciaojdceejcaaDoorListB
import Derived.Test.YtcciaojdceejcaaDoorListC
import Derived.Test.YtcciaojdceejcaaDoorListD
namespace Go.Proofs.YtcciaojdceejcaaDoor
set_option linter.unusedVariables false
set_option linter.unusedSimpArgs false
open Go.RowKit

/-- What is told: the code, the entries. -/
def dlC (zs : List Int) : Int := if dirOk zs = true then 0 else 21
def dlL (zs : List Int) : List EI := if dirOk zs = true then sortE (((entT zs (zs.length / 32)).getD []).map toI) else []
theorem dl_ok {zs : List Int} (h : dirOk zs = true) {es : List (ByteArray × Nat × Nat)} (he : entT zs (zs.length / 32) = some es) : dlC zs = 0 ∧ dlL zs = sortE (es.map toI) := by
  unfold dlC dlL
  rw [if_pos h, if_pos h, he]
  exact ⟨rfl, rfl⟩
theorem dl_bad {zs : List Int} (h : dirOk zs = false) : dlC zs = 21 ∧ dlL zs = [] := by
  unfold dlC dlL
  rw [if_neg (by rw [h]; decide), if_neg (by rw [h]; decide)]
  exact ⟨rfl, rfl⟩
theorem ent_count {zs : List Int} : ∀ {n : Nat} {es : List (ByteArray × Nat × Nat)}, entT zs n = some es → es.length ≤ n
  | 0, es, h => by
    obtain rfl : es = [] := (Option.some.inj h).symm
    simp
  | n + 1, fs, h => by
    obtain ⟨es, h1, h2⟩ := entT_some h
    have ih := ent_count h1
    rcases h2 with ⟨_, rfl⟩ | ⟨_, _, _, rfl⟩
    · omega
    · rw [List.length_append]; simp; omega
theorem sortE_length (L : List EI) : (sortE L).length = L.length := by unfold sortE; rw [sortE_len]; simp
theorem dlL_len (zs : List Int) : (dlL zs).length ≤ 8192 := by
  cases hok : dirOk zs with
  | false => rw [(dl_bad hok).2]; simp
  | true =>
    have hL := dirOk_len hok
    have h := hok
    rw [dirOk_eq hL.1 hL.2, Bool.and_eq_true] at h
    obtain ⟨es, hes⟩ := Option.isSome_iff_exists.1 h.1
    rw [(dl_ok hok hes).2, sortE_length, List.length_map]
    have := ent_count hes
    omega
theorem own_nilD (w : World) (base : Nat) : w.ownsRow base 34 3 (.slice none 0 0) ([] : List EI).length (entsI []) := ⟨rfl, .inl ⟨rfl, rfl⟩⟩

set_option maxRecDepth 100000 in
set_option maxHeartbeats 1000000 in
theorem implDL_any (v : Value) (zs : List Int) (w : World) (h : Rd .u8 w v zs) (hbd : ∀ z ∈ zs, 0 ≤ z ∧ z < 256) (hg : ErrT w) :
    Calls Tryd.prog 22 #[v] w fun e w' => ∃ v', e = .returned (.tuple #[v', .int .i64 (dlC zs)]) ∧ w'.ownsRow w.heap.size 34 3 v' (dlL zs).length (entsI (dlL zs)) ∧ Below w.heap.size w w' := by
  have hsh : ∃ a cap, v = .slice a zs.length cap := by obtain ⟨a, cap, h1, _⟩ := h; exact ⟨a, cap, h1⟩
  obtain ⟨a, cap, rfl⟩ := hsh
  have HR := hide h
  have HX := hide hbd
  have HG := hide hg
  clear h hbd hg
  go_enter Tryd.func22, Tryd.ntmps22
  go_wp2_with (go_at_call 36; fail)
  refine (openDir_all Unit cap a zs _ HR.out HX.out).mono ?_
  rintro e w1 ⟨v1, ev, rfl, hf, b1, hd⟩
  have B1 := hide b1
  clear b1
  rcases hf with ⟨hok, rfl⟩ | ⟨hok, m, hF⟩
  · obtain ⟨d, mb, nn, v', rfl, hdl, hdm, hnn, hdr⟩ := hd hok
    have HL := hide (dirOk_len hok)
    have hN8 : zs.length / 32 ≤ 8192 := by have := HL.out.2; omega
    have hes : ∃ es, entT zs (zs.length / 32) = some es := by
      have h := hok
      rw [dirOk_eq HL.out.1 HL.out.2, Bool.and_eq_true] at h
      exact Option.isSome_iff_exists.1 h.1
    obtain ⟨es, hes⟩ := hes
    have HD := hide (dl_ok hok hes)
    have HDr := hide hdr
    have HEs := hide hes
    clear hd hok hdr hes
    go_wp2_with (go_at_call 44; fail)
    refine (list_any (H := Unit) zs w.heap.size d mb _ nn v' es _ HDr.out HEs.out hN8 hnn).mono ?_
    rintro e w2 ⟨v2, rfl, o2, b2⟩
    have O2 := hide (And.intro (own_mono o2 B1.out.size) (B1.out.trans (b2.mono B1.out.size)))
    clear o2 b2
    go_wp2
    go_ret2
    rw [HD.out.1, HD.out.2]
    exact ⟨_, rfl, O2.out.1, O2.out.2⟩
  · obtain ⟨t6, x6, rfl⟩ := hF.iface
    have HD := hide (dl_bad hok)
    have HF := hide hF
    clear hd hok hF
    go_wp2_with (go_at_call 37; fail)
    refine (codeOf_any m _ 21 _ _ HF.out (HG.out.below B1.out)).mono ?_
    rintro e w2 ⟨rfl, b2⟩
    have B2 := hide (B1.out.trans (b2.mono B1.out.size))
    clear b2 B1
    go_wp2
    go_ret2
    rw [HD.out.1, HD.out.2]
    exact ⟨_, rfl, own_nilD _ _, B2.out⟩

set_option maxRecDepth 100000 in
set_option maxHeartbeats 1000000 in
theorem specDL_any (v : Value) (zs : List Int) (w : World) (h : Rd .u8 w v zs) (hbd : ∀ z ∈ zs, 0 ≤ z ∧ z < 256) :
    Calls Tryd.prog 28 #[v] w fun e w' => ∃ v', e = .returned (.tuple #[v', .int .i64 (dlC zs)]) ∧ w'.ownsRow w.heap.size 34 3 v' (dlL zs).length (entsI (dlL zs)) ∧ Below w.heap.size w w' := by
  have hsh : ∃ a cap, v = .slice a zs.length cap := by obtain ⟨a, cap, h1, _⟩ := h; exact ⟨a, cap, h1⟩
  obtain ⟨a, cap, rfl⟩ := hsh
  have HR := hide h
  have HX := hide hbd
  clear h hbd
  go_enter Tryd.func28, Tryd.ntmps28
  go_wp2_with (go_at_call 35; fail)
  refine (entries_any _ zs _ HR.out HX.out).mono ?_
  rintro e w1 ⟨v1, rfl, ho, b1⟩
  have B1 := hide b1
  clear b1
  cases hok : dirOk zs with
  | true =>
    obtain ⟨es, hes, o1⟩ := ho hok
    have HD := hide (dl_ok hok hes)
    have hN8 : es.length ≤ 8192 := by have := (dirOk_len hok).2; have := ent_count hes; omega
    have O1 := hide (show w1.ownsRow w.heap.size 34 3 v1 (es.map toI).length (entsI (es.map toI)) from by rw [List.length_map, ← entsC_I]; exact o1)
    clear ho hok hes o1
    go_wp2_with (go_at_call 48; fail)
    refine (sorted_any w.heap.size v1 (es.map toI) _ O1.out (by rw [List.length_map]; exact hN8)).mono ?_
    rintro e w2 ⟨v2, rfl, o2, b2⟩
    have O2 := hide (show w2.ownsRow w.heap.size 34 3 v2 (sortE (es.map toI)).length (entsI (sortE (es.map toI))) ∧ Below w.heap.size w w2 from ⟨by rw [sortE_length]; exact own_mono o2 B1.out.size, B1.out.trans (b2.mono B1.out.size)⟩)
    clear o2 b2
    go_wp2
    go_ret2
    rw [HD.out.1, HD.out.2]
    exact ⟨_, rfl, O2.out.1, O2.out.2⟩
  | false =>
    have HD := hide (dl_bad hok)
    clear ho hok
    go_wp2
    go_ret2
    rw [HD.out.1, HD.out.2]
    exact ⟨_, rfl, own_nilD _ _, B1.out⟩
end Go.Proofs.YtcciaojdceejcaaDoor
