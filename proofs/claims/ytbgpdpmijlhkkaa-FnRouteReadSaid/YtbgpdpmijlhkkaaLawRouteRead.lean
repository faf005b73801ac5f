/-
  The walk of the law FnRouteRead: at every code it returns true and changes nothing that was there. Conditions: none.
-/
import Derived.Test.YtbgpdpmijlhkkaaLawHo
import Derived.Test.YtbgpdpmijlhkkaaLawFrame
import Derived.BigQuiet
namespace Go.Proofs.Ytbgpdpmijlhkkaa
open Go.RowKit Hos

set_option maxHeartbeats 8000000 in
set_option maxRecDepth 16384 in
theorem walkRouteRead (a : Option Addr) (len cap : Nat) (zs : List Int) (w : World) (hn : zs.length = len) (hc : len ≤ cap) (hcc : cap ≤ maxLen) (h : Sees w w.heap.size a (byts zs)) (hz : ∀ y ∈ zs, 0 ≤ y ∧ y ≤ 255) :
    Calls Try.prog 9 #[.slice a len cap] w fun e w' => e = .returned (.bool true) ∧ Below w.heap.size w w' := by
  have HE := hid hn
  have HC := hid hcc
  have HZ := hid hz
  clear hn hcc hz
  by_cases hbig : 1048576 < len
  · go_enter Try.func9, Try.ntmps9
    go_wp2
    go_ret
    exact ⟨rfl, Below.refl _ _⟩
  · go_enter Try.func9, Try.ntmps9
    go_wp2_with fail
    refine (drawRouteRead_any _ _ _ _ _ h HZ.out HE.out hc (by omega) HC.out).mono ?_
    rintro e w1 ⟨A, c, l, m, rfl, dl, hm0, hm1⟩
    have hl6 := dl.len
    obtain ⟨V, hV⟩ : ∃ V, V = routeH l m := ⟨_, rfl⟩
    have E : Hid (routeH l m = V) := hid hV.symm
    have HV := hid hV
    obtain ⟨v0, v1⟩ := routeH_lt l m
    rw [← hV] at v0 v1
    clear hV
    go_wp2_with fail
    refine (iRouteRead_any A c l m _ dl.sees dl.n6).mono ?_
    rintro e w2 ⟨he, hb⟩
    rw [E.out] at he
    subst he
    replace dl := dl.below hb
    clear hb
    go_wp2_with fail
    refine (sRouteRead_any A c l m _ dl.sees dl.n6).mono ?_
    rintro e w2 ⟨he, hb⟩
    rw [E.out] at he
    subst he
    replace dl := dl.below hb
    clear hb
    by_cases hv0 : V < 0
    · skip
      go_wp2_with fail
      refine (sRouteRead_any A c l m _ dl.sees dl.n6).mono ?_
      rintro e w2 ⟨he, hb⟩
      rw [E.out] at he
      subst he
      replace dl := dl.below hb
      clear hb
      go_wp2
      go_ret
      exact ⟨by simp, dl.bel⟩
    · skip
      obtain ⟨k, rfl⟩ : ∃ k : Nat, V = k := ⟨V.toNat, by omega⟩
      have hk : k < l.length := by omega
      have hki : ¬ (k : Int) ≥ (l.length : Int) := by omega
      have hkn : ¬ l.length ≤ k := by omega
      have hk2 : (k : Int) < (l.length : Int) := by omega
      have hk0 : (0 : Int) ≤ (k : Int) := by omega
      have HR := hid (route_found HV.out.symm hk)
      clear HV
      obtain ⟨w9, hw9⟩ : ∃ w9 : World, w9 = w2 := ⟨_, rfl⟩
      subst hw9
      go_wp2
      go_loopw [6] (fun i wr => ∃ j : Nat, i = .int .i64 j ∧ DH w wr A c l) (fun i _ => l.length - (intOf i).toNat)
      case atStart => exact ⟨0, rfl, dl⟩
      case round =>
        clear dl
        obtain ⟨j, rfl, dl⟩ := hrel
        have hd := HR.out.2.2.1
        have hg := HR.out.2.2.2.1
        by_cases hlt : j < l.length
        · skip
          have hi : (j : Int) < (l.length : Int) := by omega
          have hj0 : (0 : Int) ≤ (j : Int) := by omega
          have HB := HR.out.2.2.2.2 j hlt
          obtain ⟨b, o, rfl, hbl, e0, e1, e2⟩ := dl.sees.host hk
          obtain ⟨b', o', he, _, f0, f1, f2⟩ := dl.sees.host hlt
          injection he with he
          injection he with he1 he2
          subst he1 he2
          obtain ⟨x, hx⟩ : ∃ x, x = l[k] := ⟨_, rfl⟩
          obtain ⟨y, hy⟩ : ∃ y, y = l[j] := ⟨_, rfl⟩
          rw [← hx] at e0 e1 e2 HB
          rw [← hy] at f0 f1 f2 HB
          clear hx hy hd hg
          have rel : ∀ wr : World, DH w wr (some ⟨b, o, none⟩) c l → True := fun _ _ => trivial
          clear rel
          rcases yd : y.d with _ | _
          · skip
            rw [yd] at f2
            by_cases yg : y.g ≤ m
            · skip
              have hb := HB yd yg
              clear HB
              have c1 : ¬ y.l < x.l := by omega
              have c1b : decide (y.l < x.l) = false := decide_eq_false c1
              by_cases c2 : y.l = x.l
              · skip
                have c2b : (y.l == x.l) = true := beq_iff_eq.2 c2
                have hb2 : j = k ∨ j = 0 ∨ (k ≠ 0 ∧ k < j) := by omega
                clear hb
                by_cases c3 : j = 0
                · skip
                  have c3b : ¬ (j : Int) > 0 := by omega
                  have c3c : decide ((0 : Int) < (j : Int)) = false := decide_eq_false (by omega)
                  have c3d : decide (0 < j) = false := decide_eq_false (by omega)
                  have c3e : ¬ 0 < j := by omega
                  clear c3
                  go_wp2
                  go_quiet (fail)
                  go_wp2
                  go_roundw
                  case rel => exact ⟨j + 1, by go_num, dl.drewN _⟩
                  case measure => simp [intOf]; omega
                · skip
                  have c3b : (j : Int) > 0 := by omega
                  have c3c : (0 : Int) < (j : Int) := by omega
                  have c3d : 0 < j := by omega
                  by_cases c4 : j = k
                  · skip
                    subst c4
                    have c5 : ¬ (j : Int) < (j : Int) := by omega
                    have c5b : decide ((j : Int) < (j : Int)) = false := decide_eq_false c5
                    have c5d : ¬ j < j := by omega
                    have c6 : ((j : Int) == 0) = false := beq_eq_false_iff_ne.2 (by omega)
                    have c6d : ¬ j = 0 := c3
                    go_wp2
                    go_quiet (fail)
                    go_wp2
                    go_roundw
                    case rel => exact ⟨j + 1, by go_num, dl.drewN _⟩
                    case measure => simp [intOf]; omega
                  · skip
                    have c5 : ¬ (j : Int) < (k : Int) := by omega
                    have c5b : decide ((j : Int) < (k : Int)) = false := decide_eq_false c5
                    have c5d : ¬ j < k := by omega
                    have c5e : decide (j < k) = false := decide_eq_false c5d
                    have c6 : ((k : Int) == 0) = false := beq_eq_false_iff_ne.2 (by omega)
                    have c6d : ¬ k = 0 := by omega
                    go_wp2
                    go_quiet (fail)
                    go_wp2
                    go_roundw
                    case rel => exact ⟨j + 1, by go_num, dl.drewN _⟩
                    case measure => simp [intOf]; omega
              · skip
                have c2b : (y.l == x.l) = false := beq_eq_false_iff_ne.2 c2
                clear hb
                go_wp2
                go_quiet (fail)
                go_wp2
                go_roundw
                case rel => exact ⟨j + 1, by go_num, dl.drewN _⟩
                case measure => simp [intOf]; omega
            · skip
              clear HB
              have ygb : decide (y.g ≤ m) = false := decide_eq_false yg
              go_wp2
              go_quiet (fail)
              go_wp2
              go_roundw
              case rel => exact ⟨j + 1, by go_num, dl.drewN _⟩
              case measure => simp [intOf]; omega
          · skip
            rw [yd] at f2
            clear HB
            go_wp2
            go_quiet (fail)
            go_wp2
            go_roundw
            case rel => exact ⟨j + 1, by go_num, dl.drewN _⟩
            case measure => simp [intOf]; omega
        · skip
          have hi : ¬ (j : Int) < (l.length : Int) := by omega
          obtain ⟨b, o, rfl, hbl, e0, e1, e2⟩ := dl.sees.host hk
          rw [hd] at e2
          obtain ⟨x, hx⟩ : ∃ x, x = l[k].g := ⟨_, rfl⟩
          rw [← hx] at e1 hg
          clear hx
          go_wp2
          go_ret
          exact ⟨by simp, dl.bel⟩
end Go.Proofs.Ytbgpdpmijlhkkaa
