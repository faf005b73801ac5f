/-
  The walk of the law FnRouteReadLag: at every code it returns true and changes nothing that was there. Conditions: none.
-/
import Derived.Test.YtbgpdpmijlhkkabLawHo
import Derived.Test.YtbgpdpmijlhkkabLawFrame
import Derived.BigQuiet
namespace Go.Proofs.Ytbgpdpmijlhkkab
open Go.RowKit Hos

set_option maxHeartbeats 8000000 in
set_option maxRecDepth 16384 in
theorem walkRouteReadLag (a : Option Addr) (len cap : Nat) (zs : List Int) (w : World) (hn : zs.length = len) (hc : len ≤ cap) (hcc : cap ≤ maxLen) (h : Sees w w.heap.size a (byts zs)) (hz : ∀ y ∈ zs, 0 ≤ y ∧ y ≤ 255) :
    Calls Try.prog 3 #[.slice a len cap] w fun e w' => e = .returned (.bool true) ∧ Below w.heap.size w w' := by
  have HE := hid hn
  have HC := hid hcc
  have HZ := hid hz
  clear hn hcc hz
  by_cases hbig : 1048576 < len
  · go_enter Try.func3, Try.ntmps3
    go_wp2
    go_ret
    exact ⟨rfl, Below.refl _ _⟩
  · go_enter Try.func3, Try.ntmps3
    go_wp2_with fail
    refine (drawRouteRead_any _ _ _ _ _ h HZ.out HE.out hc (by omega) HC.out).mono ?_
    rintro e w1 ⟨A, c, l, m, rfl, dl, hm0, hm1⟩
    have hl6 := dl.len
    obtain ⟨V, hV⟩ : ∃ V, V = routeH l m := ⟨_, rfl⟩
    have E : Hid (routeH l m = V) := hid hV.symm
    have HV := hid hV
    obtain ⟨v0, v1⟩ := routeH_lt l m
    rw [← hV] at v0 v1
    clear hV
    go_wp2_with fail
    refine (iRouteRead_any A c l m _ dl.sees dl.n6).mono ?_
    rintro e w2 ⟨he, hb⟩
    rw [E.out] at he
    subst he
    replace dl := dl.below hb
    clear hb
    go_wp2_with fail
    refine (sRouteRead_any A c l m _ dl.sees dl.n6).mono ?_
    rintro e w2 ⟨he, hb⟩
    rw [E.out] at he
    subst he
    replace dl := dl.below hb
    clear hb
    by_cases hv0 : V < 0
    · skip
      go_wp2_with fail
      refine (sRouteRead_any A c l m _ dl.sees dl.n6).mono ?_
      rintro e w2 ⟨he, hb⟩
      rw [E.out] at he
      subst he
      replace dl := dl.below hb
      clear hb
      go_wp2
      go_ret
      exact ⟨by simp, dl.bel⟩
    · skip
      obtain ⟨k, rfl⟩ : ∃ k : Nat, V = k := ⟨V.toNat, by omega⟩
      have hk : k < l.length := by omega
      have hki : ¬ (k : Int) ≥ (l.length : Int) := by omega
      have hkn : ¬ l.length ≤ k := by omega
      have hk2 : (k : Int) < (l.length : Int) := by omega
      have hk0 : (0 : Int) ≤ (k : Int) := by omega
      by_cases hm : m = 1000
      · skip
        subst hm
        go_wp2_with fail
        refine (sRouteRead_any A c l 1000 _ dl.sees dl.n6).mono ?_
        rintro e w2 ⟨he, hb⟩
        rw [E.out] at he
        subst he
        replace dl := dl.below hb
        clear hb
        go_wp2
        go_ret
        exact ⟨by simp, dl.bel⟩
      · skip
        have hmb : (m == 1000) = false := beq_eq_false_iff_ne.2 hm
        have q : IntKind.i64.wrap (m + 1) = m + 1 := by rw [IntKind.wrap_i64]; omega
        obtain ⟨j, hj, hr, hle⟩ := route_more HV.out.symm hk hm
        have E2 := hid hr
        have hj2 : (j : Int) < (l.length : Int) := by omega
        have hj0 : (0 : Int) ≤ (j : Int) := by omega
        have hjg : (j : Int) ≥ 0 := hj0
        clear hr HV
        go_wp2_with fail
        refine (iRouteRead_any A c l (m + 1) _ dl.sees dl.n6).mono ?_
        rintro e w2 ⟨he, hb⟩
        rw [E2.out] at he
        subst he
        replace dl := dl.below hb
        clear hb
        obtain ⟨b, o, rfl, hbl, e0, e1, e2⟩ := dl.sees.host hk
        obtain ⟨b', o', he, _, f0, f1, f2⟩ := dl.sees.host hj
        injection he with he
        injection he with he1 he2
        subst he1 he2
        obtain ⟨x, hx⟩ : ∃ x, x = l[k].l := ⟨_, rfl⟩
        obtain ⟨y, hy⟩ : ∃ y, y = l[j].l := ⟨_, rfl⟩
        rw [← hx] at e0 hle
        rw [← hy] at f0 hle
        clear hx hy
        go_wp2
        go_quiet (fail)
        go_wp2
        go_ret
        exact ⟨by simp, below_drewN dl.bel _⟩
end Go.Proofs.Ytbgpdpmijlhkkab
