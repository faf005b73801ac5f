/-
  The walk of the law FnAddLoadBack: at every code it returns true and changes nothing that was there. Conditions: none.
-/
import Derived.Test.YtbgpdpmijlhkkabLawHo
import Derived.Test.YtbgpdpmijlhkkabLawFrame
import Derived.BigQuiet
namespace Go.Proofs.Ytbgpdpmijlhkkab
open Go.RowKit Hos

set_option maxHeartbeats 8000000 in
set_option maxRecDepth 16384 in
theorem walkAddLoadBack (a : Option Addr) (len cap : Nat) (zs : List Int) (w : World) (hn : zs.length = len) (hc : len ≤ cap) (hcc : cap ≤ maxLen) (h : Sees w w.heap.size a (byts zs)) (hz : ∀ y ∈ zs, 0 ≤ y ∧ y ≤ 255) :
    Calls Try.prog 6 #[.slice a len cap] w fun e w' => e = .returned (.bool true) ∧ Below w.heap.size w w' := by
  have HE := hid hn
  have HC := hid hcc
  have HZ := hid hz
  clear hn hcc hz
  by_cases hbig : 1048576 < len
  · go_enter Try.func6, Try.ntmps6
    go_wp2
    go_ret
    exact ⟨rfl, Below.refl _ _⟩
  · go_enter Try.func6, Try.ntmps6
    go_wp2_with fail
    refine (drawAddLoad_any _ _ _ _ _ h HZ.out HE.out hc (by omega) HC.out).mono ?_
    rintro e w1 ⟨A, c, l, q, d, rfl, dl, hq0, hq1, hd0, hd1⟩
    have hl6 := dl.len
    obtain ⟨B, hB⟩ : ∃ B, B = loadB l q d := ⟨_, rfl⟩
    have EB : Hid (loadB l q d = B) := hid hB.symm
    obtain ⟨M, hM⟩ : ∃ M, M = loadL l q d := ⟨_, rfl⟩
    have EM : Hid (loadL l q d = M) := hid hM.symm
    have HM6 := hid (show M.length ≤ 6 by rw [hM]; have := loadL_len l q d; omega)
    have HB := hid hB
    have HM := hid hM
    clear hB hM
    go_wp2_with fail
    refine (iAddLoad_any A c l q d _ dl.sees dl.n6).mono ?_
    rintro e w2 ⟨v1, he, ho1, hb⟩
    rw [EB.out] at he
    subst he
    rw [EM.out] at ho1
    replace dl := dl.below hb
    clear hb
    obtain ⟨A1, c1, rfl, _, _, _⟩ := ho1.form
    go_wp2_with fail
    refine (sAddLoad_any A c l q d _ dl.sees dl.n6).mono ?_
    rintro e w2 ⟨v2, he, ho2, hb⟩
    rw [EB.out] at he
    subst he
    rw [EM.out] at ho2
    replace dl := dl.below hb
    replace ho1 := ho1.below hb
    clear hb
    obtain ⟨A2, c2, rfl, _, _, _⟩ := ho2.form
    go_wp2_with fail
    refine (equalHosts_same rfl ho1.sees ho2.sees (Nat.le_trans HM6.out (by decide))).mono ?_
    rintro e w2 ⟨rfl, hb⟩
    replace dl := dl.below hb
    replace ho1 := ho1.below hb
    replace ho2 := ho2.below hb
    clear hb
    rcases hv : hostsB l with _ | _
    · skip
      have EV := hid hv
      clear hv
      go_wp2_with fail
      refine (iValidHosts_any A c l _ dl.sees dl.n6).mono ?_
      rintro e w2 ⟨he, hb⟩
      rw [EV.out] at he
      subst he
      replace dl := dl.below hb
      replace ho1 := ho1.below hb
      replace ho2 := ho2.below hb
      clear hb
      go_wp2_with fail
      refine (equalHosts_same rfl ho1.sees ho2.sees (Nat.le_trans HM6.out (by decide))).mono ?_
      rintro e w2 ⟨rfl, hb⟩
      replace dl := dl.below hb
      replace ho1 := ho1.below hb
      replace ho2 := ho2.below hb
      clear hb
      go_wp2
      go_ret
      exact ⟨by simp, dl.bel⟩
    · skip
      have EV := hid hv
      go_wp2_with fail
      refine (iValidHosts_any A c l _ dl.sees dl.n6).mono ?_
      rintro e w2 ⟨he, hb⟩
      rw [EV.out] at he
      subst he
      replace dl := dl.below hb
      replace ho1 := ho1.below hb
      replace ho2 := ho2.below hb
      clear hb
      by_cases c1 : q < 0
      · skip
        go_wp2_with fail
        refine (equalHosts_same rfl ho1.sees ho2.sees (Nat.le_trans HM6.out (by decide))).mono ?_
        rintro e w2 ⟨rfl, hb⟩
        replace dl := dl.below hb
        replace ho1 := ho1.below hb
        replace ho2 := ho2.below hb
        clear hb
        go_wp2
        go_ret
        exact ⟨by simp, dl.bel⟩
      · skip
        obtain ⟨k, rfl⟩ : ∃ k : Nat, q = k := ⟨q.toNat, by omega⟩
        by_cases c2 : l.length ≤ k
        · skip
          have c2i : (k : Int) ≥ (l.length : Int) := by omega
          go_wp2_with fail
          refine (equalHosts_same rfl ho1.sees ho2.sees (Nat.le_trans HM6.out (by decide))).mono ?_
          rintro e w2 ⟨rfl, hb⟩
          replace dl := dl.below hb
          replace ho1 := ho1.below hb
          replace ho2 := ho2.below hb
          clear hb
          go_wp2
          go_ret
          exact ⟨by simp, dl.bel⟩
        · skip
          have c2i : ¬ (k : Int) ≥ (l.length : Int) := by omega
          have hk2 : (k : Int) < (l.length : Int) := by omega
          have hk : k < l.length := by omega
          have c3 : ¬ d < -100 := by omega
          by_cases c4 : d > 100
          · skip
            go_wp2_with fail
            refine (equalHosts_same rfl ho1.sees ho2.sees (Nat.le_trans HM6.out (by decide))).mono ?_
            rintro e w2 ⟨rfl, hb⟩
            replace dl := dl.below hb
            replace ho1 := ho1.below hb
            replace ho2 := ho2.below hb
            clear hb
            go_wp2
            go_ret
            exact ⟨by simp, dl.bel⟩
          · skip
            have hBB : B = decide (0 ≤ l[k].l + d ∧ l[k].l + d ≤ 100) := by rw [HB.out]; exact load_at hv hk (by omega)
            have hok := Hst.ok_iff.1 (hosts_ok hv hk)
            clear hv HB
            obtain ⟨b, o, rfl, hbl, e0, e1, e2⟩ := dl.sees.host hk
            obtain ⟨x, hx⟩ : ∃ x, x = l[k].l := ⟨_, rfl⟩
            rw [← hx] at e0 hBB hok
            clear hx
            have q1 : IntKind.i64.wrap (x + d) = x + d := by rw [IntKind.wrap_i64]; omega
            by_cases d1 : x + d ≥ 0
            · skip
              by_cases d2 : x + d ≤ 100
              · skip
                have hBt : B = true := by rw [hBB]; exact decide_eq_true ⟨d1, d2⟩
                subst hBt
                clear hBB
                go_wp2
                go_ret
                exact ⟨by simp, dl.bel⟩
              · skip
                have hBt : B = false := by rw [hBB]; exact decide_eq_false (fun h => d2 h.2)
                subst hBt
                clear hBB
                go_wp2
                go_ret
                exact ⟨by simp; omega, dl.bel⟩
            · skip
              have hBt : B = false := by rw [hBB]; exact decide_eq_false (fun h => d1 h.1)
              subst hBt
              clear hBB
              go_wp2
              go_ret
              exact ⟨by simp, dl.bel⟩
end Go.Proofs.Ytbgpdpmijlhkkab
