/-
  The walk of the law FnRouteWrite: at every code it returns true and changes nothing that was there. Conditions: none.
-/
import Derived.Test.YtbgpdpmijlhkkaaLawHo
import Derived.Test.YtbgpdpmijlhkkaaLawFrame
import Derived.BigQuiet
namespace Go.Proofs.Ytbgpdpmijlhkkaa
open Go.RowKit Hos

set_option maxHeartbeats 8000000 in
theorem walkRouteWrite (a : Option Addr) (len cap : Nat) (zs : List Int) (w : World) (hn : zs.length = len) (hc : len ≤ cap) (hcc : cap ≤ maxLen) (h : Sees w w.heap.size a (byts zs)) (hz : ∀ y ∈ zs, 0 ≤ y ∧ y ≤ 255) :
    Calls Try.prog 10 #[.slice a len cap] w fun e w' => e = .returned (.bool true) ∧ Below w.heap.size w w' := by
  have HE := hid hn
  have HC := hid hcc
  have HZ := hid hz
  clear hn hcc hz
  by_cases hbig : 1048576 < len
  · go_enter Try.func10, Try.ntmps10
    go_wp2
    go_ret
    exact ⟨rfl, Below.refl _ _⟩
  · go_enter Try.func10, Try.ntmps10
    go_wp2_with fail
    refine (drawRouteWrite_any _ _ _ _ _ h HZ.out HE.out hc (by omega) HC.out).mono ?_
    rintro e w1 ⟨A, c, l, rfl, dl⟩
    have hl6 := dl.len
    rcases hv : hostsB l with _ | _
    · skip
      have E := hid (writeH_no (l := l) (.inl hv))
      have EV := hid hv
      clear hv
      go_wp2_with fail
      refine (iRouteWrite_any A c l _ dl.sees dl.n6).mono ?_
      rintro e w2 ⟨he, hb⟩
      rw [E.out] at he
      subst he
      replace dl := dl.below hb
      clear hb
      go_wp2_with fail
      refine (sRouteWrite_any A c l _ dl.sees dl.n6).mono ?_
      rintro e w2 ⟨he, hb⟩
      rw [E.out] at he
      subst he
      replace dl := dl.below hb
      clear hb
      go_wp2_with fail
      refine (iValidHosts_any A c l _ dl.sees dl.n6).mono ?_
      rintro e w2 ⟨he, hb⟩
      rw [EV.out] at he
      subst he
      replace dl := dl.below hb
      clear hb
      go_wp2_with fail
      refine (sRouteWrite_any A c l _ dl.sees dl.n6).mono ?_
      rintro e w2 ⟨he, hb⟩
      rw [E.out] at he
      subst he
      replace dl := dl.below hb
      clear hb
      go_wp2
      go_ret
      exact ⟨by simp, dl.bel⟩
    · skip
      have hl0 : 0 < l.length := (hosts_len hv).1
      have HD := hid (down0_at hl0)
      have EV := hid hv
      rcases hd : down0 l with _ | _
      · skip
        have E := hid (writeH_yes hv hd)
        rw [hd] at HD
        obtain ⟨V, hV⟩ : ∃ V, V = routeH l 0 := ⟨_, rfl⟩
        have E2 : Hid (routeH l 0 = V) := hid hV.symm
        have hv0 : 0 ≤ V := by rw [hV]; exact write_read hv hd
        clear hv hd hV
        go_wp2_with fail
        refine (iRouteWrite_any A c l _ dl.sees dl.n6).mono ?_
        rintro e w2 ⟨he, hb⟩
        rw [E.out] at he
        subst he
        replace dl := dl.below hb
        clear hb
        go_wp2_with fail
        refine (sRouteWrite_any A c l _ dl.sees dl.n6).mono ?_
        rintro e w2 ⟨he, hb⟩
        rw [E.out] at he
        subst he
        replace dl := dl.below hb
        clear hb
        go_wp2_with fail
        refine (iValidHosts_any A c l _ dl.sees dl.n6).mono ?_
        rintro e w2 ⟨he, hb⟩
        rw [EV.out] at he
        subst he
        replace dl := dl.below hb
        clear hb
        obtain ⟨b, o, rfl, hbl, e0, e1, e2⟩ := dl.sees.host hl0
        simp only [Nat.zero_mul, Nat.add_zero] at e0 e1 e2
        rw [← HD.out] at e2
        have hli0 : (0 : Int) < (l.length : Int) := by omega
        go_wp2_with fail
        refine (iRouteRead_any _ c l 0 _ dl.sees dl.n6).mono ?_
        rintro e w2 ⟨he, hb⟩
        rw [E2.out] at he
        subst he
        replace dl := dl.below hb
        clear hb
        have hv0b : V ≥ 0 := hv0
        go_wp2
        go_ret
        exact ⟨by simp, dl.bel⟩
      · skip
        have E := hid (writeH_no (l := l) (.inr hd))
        rw [hd] at HD
        clear hv hd
        go_wp2_with fail
        refine (iRouteWrite_any A c l _ dl.sees dl.n6).mono ?_
        rintro e w2 ⟨he, hb⟩
        rw [E.out] at he
        subst he
        replace dl := dl.below hb
        clear hb
        go_wp2_with fail
        refine (sRouteWrite_any A c l _ dl.sees dl.n6).mono ?_
        rintro e w2 ⟨he, hb⟩
        rw [E.out] at he
        subst he
        replace dl := dl.below hb
        clear hb
        go_wp2_with fail
        refine (iValidHosts_any A c l _ dl.sees dl.n6).mono ?_
        rintro e w2 ⟨he, hb⟩
        rw [EV.out] at he
        subst he
        replace dl := dl.below hb
        clear hb
        obtain ⟨b, o, rfl, hbl, e0, e1, e2⟩ := dl.sees.host hl0
        simp only [Nat.zero_mul, Nat.add_zero] at e0 e1 e2
        rw [← HD.out] at e2
        have hli0 : (0 : Int) < (l.length : Int) := by omega
        go_wp2
        go_ret
        exact ⟨by simp, dl.bel⟩
end Go.Proofs.Ytbgpdpmijlhkkaa
