/-
  The walk of the law FnBestCacheNone: at every code it returns true and changes nothing that was there. Conditions: none.
-/
import Derived.Test.YtfophplmdljhbaaLawCb
import Derived.Test.YtfophplmdljhbaaLawFrame
import Derived.BigQuiet
namespace Go.Proofs.Ytfophplmdljhbaa
open Go.RowKit Cac Lea

set_option maxHeartbeats 8000000 in
theorem walkBestCacheNone (a : Option Addr) (len cap : Nat) (zs : List Int) (w : World) (hn : zs.length = len) (hc : len ≤ cap) (hcc : cap ≤ maxLen) (h : Sees w w.heap.size a (byts zs)) (hz : ∀ y ∈ zs, 0 ≤ y ∧ y ≤ 255) :
    Calls Try.prog 5 #[.slice a len cap] w fun e w' => e = .returned (.bool true) ∧ Below w.heap.size w w' := by
  have HE := hid hn
  have HC := hid hcc
  have HZ := hid hz
  clear hn hcc hz
  by_cases hbig : 1048576 < len
  · go_enter Try.func5, Try.ntmps5
    go_wp2
    go_ret
    exact ⟨rfl, Below.refl _ _⟩
  go_enter Try.func5, Try.ntmps5
  go_wp2_with fail
  refine (drawBestCache_any _ _ _ _ _ h HZ.out HE.out hc (by omega) HC.out).mono ?_
  rintro e w1 ⟨A, c, rs, B, d, l, rfl, dr⟩
  have hpt := bes_parts (rs := rs) (l := l)
  have HNI := hid (fun hh => bes_nil (rs := rs) (l := l) hh)
  have HFI := hid (fun hh => bes_first (rs := rs) (l := l) hh)
  obtain ⟨V, hV⟩ : ∃ V, V = besV rs l := ⟨_, rfl⟩
  have EV : Hid (besV rs l = V) := hid hV.symm
  rw [← hV] at hpt HNI HFI
  clear hV hbig hc
  go_wp2_with fail
  with_reducible refine (iBestCache_any A B c d rs l _ dr.s1 dr.s2 dr.cap2 dr.n1 dr.n2 dr.n3).mono ?_
  rintro e w2 ⟨he, hb⟩
  rw [EV.out] at he
  subst he
  replace dr := dr.below hb
  clear hb
  go_wp2_with fail
  with_reducible refine (sBestCache_any A B c d rs l _ dr.s1 dr.s2 dr.cap2 dr.n1 dr.n2 dr.n3).mono ?_
  rintro e w3 ⟨he, hb⟩
  rw [EV.out] at he
  subst he
  replace dr := dr.below hb
  clear hb
  rcases hpt with rfl | ⟨j, rfl, hjl, hle⟩
  · go_wp2_with fail
    with_reducible refine (sBestCache_any A B c d rs l _ dr.s1 dr.s2 dr.cap2 dr.n1 dr.n2 dr.n3).mono ?_
    rintro e w4 ⟨he, hb⟩
    rw [EV.out] at he
    subst he
    replace dr := dr.below hb
    clear hb
    go_wp2
    go_ret
    exact ⟨rfl, dr.bel⟩
  have hj0 : ¬ (j : Int) < 0 := by omega
  have hl0 : 0 < rs.length := by omega
  have hlc := dr.cap
  have hl1 : (1 : Int) ≤ (c : Int) := by omega
  have HN0 := hid (HNI.out (by omega))
  have HF0 := hid (HFI.out (by omega))
  have HTL : Hid ((rs.take 1).length = 1) := hid (by rw [List.length_take]; omega)
  have hd0 : ([] : List Int).length ≤ 0 := by simp
  obtain ⟨b, o, rfl, _, _, _, _, _⟩ := dr.s1.row hl0
  clear hle
  go_wp2_with fail
  with_reducible refine (iBestCache_len (n1 := rs.length) (n2 := 0) (l := []) rfl rfl dr.s1 Sees.nil hd0 dr.n1 dr.n2 (by simp)).mono ?_
  rintro e w4 ⟨he, hb⟩
  rw [HN0.out] at he
  subst he
  replace dr := dr.below hb
  clear hb
  go_wp2_with fail
  with_reducible refine (iBestCache_len (n1 := 1) (n2 := l.length) (rs := rs.take 1) HTL.out rfl (seesC_take dr.s1 1) dr.s2 dr.cap2 (by rw [HTL.out]; decide) (fun r hr => dr.n2 r (List.mem_of_mem_take hr)) dr.n3).mono ?_
  rintro e w5 ⟨he, hb⟩
  rw [HF0.out] at he
  subst he
  replace dr := dr.below hb
  go_wp2
  go_ret
  exact ⟨rfl, dr.bel⟩
end Go.Proofs.Ytfophplmdljhbaa
