/-
  The walk of the law FnWaitUnderMore: at every code it returns true and changes nothing that was there. Conditions: none.
-/
import Derived.Test.YtiiieollemhjmabLawWtB
import Derived.Test.YtiiieollemhjmabLawFrame
import Derived.BigQuiet

namespace Go.Proofs.Ytiiieollemhjmab
open Go.RowKit Wt

set_option maxHeartbeats 8000000 in
theorem walkWaitUnderMore (a : Option Addr) (len cap : Nat) (zs : List Int) (w : World) (hn : zs.length = len) (hc : len ≤ cap) (hcc : cap ≤ maxLen) (h : Sees w w.heap.size a (byts zs)) (hz : ∀ y ∈ zs, 0 ≤ y ∧ y ≤ 255) :
    Calls Try.prog 9 #[.slice a len cap] w fun e w' => e = .returned (.bool true) ∧ Below w.heap.size w w' := by
  have HE := hid hn
  have HC := hid hcc
  have HZ := hid hz
  clear hn hcc hz
  by_cases hbig : 1048576 < len
  · go_enter Try.func9, Try.ntmps9
    go_wp2
    go_ret
    exact ⟨rfl, Below.refl _ _⟩
  · go_enter Try.func9, Try.ntmps9
    go_wp2_with fail
    refine (drawWaitUnder_any _ _ _ _ _ h HZ.out HE.out hc (by omega) HC.out).mono ?_
    rintro e w2 ⟨A, c, l, p, rfl, dl, hp0, hp1⟩
    have HM := hid (fun (K : undB l p = true) (h : p + 1 ≤ 100) => und_mono (q := p + 1) K (by omega) h)
    have HU := hid (fun (K : undB l p = true) => (undB_iff.1 K).2.1)
    obtain ⟨V, hV⟩ : ∃ V, V = undV l p := ⟨_, rfl⟩
    have EV : Hid (undV l p = V) := hid hV.symm
    obtain ⟨K, hK⟩ : ∃ K, K = undB l p := ⟨_, rfl⟩
    have EK : Hid (undB l p = K) := hid hK.symm
    have HK := hid hK
    rw [← hV] at HM
    clear hV hK
    cases K with
    | false =>
      go_wp2_with fail
      refine (iWaitUnder_any l p A c _ dl.sees dl.cap dl.n4).mono ?_
      rintro e w' ⟨he, rfl⟩
      rw [EV.out, EK.out] at he
      subst he
      go_wp2_with fail
      refine (sWaitUnder_any l p A c _ dl.sees dl.n4).mono ?_
      rintro e w' ⟨he, rfl⟩
      rw [EV.out, EK.out] at he
      subst he
      go_wp2
      go_ret
      exact ⟨by first | rfl | (simp; done) | (simp; omega), dl.bel⟩
    | true =>
      have hu := HU.out HK.out.symm
      by_cases hp : p = 100
      · skip
        have hpb : (p == 100) = true := by simp [hp]
        have HP := hid hp
        clear hp
        go_wp2_with fail
        refine (iWaitUnder_any l p A c _ dl.sees dl.cap dl.n4).mono ?_
        rintro e w' ⟨he, rfl⟩
        rw [EV.out, EK.out] at he
        subst he
        go_wp2_with fail
        refine (sWaitUnder_any l p A c _ dl.sees dl.n4).mono ?_
        rintro e w' ⟨he, rfl⟩
        rw [EV.out, EK.out] at he
        subst he
        go_wp2
        go_ret
        exact ⟨by first | rfl | (simp; done) | (simp; omega), dl.bel⟩
      · skip
        have hpb : (p == 100) = false := beq_eq_false_iff_ne.2 hp
        obtain ⟨m1, m2⟩ := HM.out HK.out.symm (by omega)
        have EM := hid m1
        have hw : IntKind.i64.wrap (p + 1) = p + 1 := by rw [IntKind.wrap_i64]; omega
        obtain ⟨U, hU⟩ : ∃ U, U = undV l (p + 1) := ⟨_, rfl⟩
        have EU : Hid (undV l (p + 1) = U) := hid hU.symm
        rw [← hU] at m2
        clear hU m1 hp
        go_wp2_with fail
        refine (iWaitUnder_any l p A c _ dl.sees dl.cap dl.n4).mono ?_
        rintro e w' ⟨he, rfl⟩
        rw [EV.out, EK.out] at he
        subst he
        go_wp2_with fail
        refine (sWaitUnder_any l p A c _ dl.sees dl.n4).mono ?_
        rintro e w' ⟨he, rfl⟩
        rw [EV.out, EK.out] at he
        subst he
        go_wp2_with fail
        refine (iWaitUnder_any l (p + 1) A c _ dl.sees dl.cap dl.n4).mono ?_
        rintro e w' ⟨he, rfl⟩
        rw [EU.out, EM.out] at he
        subst he
        go_wp2
        go_ret
        exact ⟨by first | rfl | (simp; done) | (simp; omega), dl.bel⟩
end Go.Proofs.Ytiiieollemhjmab
