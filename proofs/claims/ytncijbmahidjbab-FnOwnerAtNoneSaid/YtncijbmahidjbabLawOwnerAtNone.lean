/-
  The walk of the law FnOwnerAtNone: at every code it returns true and changes nothing that was there. Conditions: none.
-/
import Derived.Test.YtncijbmahidjbabLsDraw
import Derived.Test.YtncijbmahidjbabLsE
import Derived.Test.YtncijbmahidjbabLeaseMathB
import Derived.Test.YtncijbmahidjbabLawFrame
import Derived.BigQuiet
import Derived.Deep.RegionHeldLaw
namespace Go.Proofs.Ytncijbmahidjbab
open Go.RowKit Lse

set_option maxHeartbeats 4000000 in
theorem walkOwnerAtNone (a : Option Addr) (len cap : Nat) (zs : List Int) (w : World) (hn : zs.length = len) (hc : len ≤ cap) (hcc : cap ≤ maxLen) (h : Sees w w.heap.size a (byts zs)) (hz : ∀ y ∈ zs, 0 ≤ y ∧ y ≤ 255) :
    Calls Try.prog 5 #[.slice a len cap] w fun e w' => e = .returned (.bool true) ∧ Below w.heap.size w w' := by
  have HE := hid hn
  have HC := hid hcc
  have HZ := hid hz
  clear hn hcc hz
  by_cases hbig : 1048576 < len
  · go_enter Try.func5, Try.ntmps5
    go_wp2
    go_ret
    exact ⟨rfl, Below.refl _ _⟩
  · go_enter Try.func5, Try.ntmps5
    go_wp2_with fail
    refine (drawOwnerAt_any _ _ _ _ _ h HZ.out HE.out hc (by omega) HC.out).mono ?_
    rintro e w1 ⟨A, c, l, q, t, rfl, dl⟩
    obtain ⟨V, hV⟩ : ∃ V, V = ownerAt l q t := ⟨_, rfl⟩
    have E : Hid (ownerAt l q t = V) := hid hV.symm
    clear hV
    go_wp2_with fail
    refine (iOwnerAt_any A c l q t _ dl.sees dl.2.2.2 (Nat.le_trans dl.2.2.1 (by decide))).mono ?_
    rintro e w2 ⟨he, hb⟩
    rw [E.out] at he
    subst he
    replace dl := dl.below hb
    clear hb
    go_wp2_with fail
    refine (sOwnerAt_any A c l q t _ dl.sees (Nat.le_trans dl.2.2.1 (by decide))).mono ?_
    rintro e w2 ⟨he, hb⟩
    rw [E.out] at he
    subst he
    replace dl := dl.below hb
    clear hb
    rcases hv : validB l with _ | _
    · have HV := hid hv
      clear hv
      go_wp2_with fail
      refine (iValidLeases_any A c l _ dl.sees dl.2.2.2 (Nat.le_trans dl.2.2.1 (by decide))).mono ?_
      rintro e w2 ⟨he, hb⟩
      rw [HV.out] at he
      subst he
      replace dl := dl.below hb
      clear hb
      go_wp2_with fail
      refine (sOwnerAt_any A c l q t _ dl.sees (Nat.le_trans dl.2.2.1 (by decide))).mono ?_
      rintro e w2 ⟨he, hb⟩
      rw [E.out] at he
      subst he
      replace dl := dl.below hb
      clear hb
      go_wp2
      go_ret
      exact ⟨by simp, dl.bel⟩
    · have HV := hid hv
      clear hv
      go_wp2_with fail
      refine (iValidLeases_any A c l _ dl.sees dl.2.2.2 (Nat.le_trans dl.2.2.1 (by decide))).mono ?_
      rintro e w2 ⟨he, hb⟩
      rw [HV.out] at he
      subst he
      replace dl := dl.below hb
      clear hb
      go_wp2
      go_loopw [7, 8] (fun v i wr => ∃ k : Nat, k ≤ l.length ∧ i = .int .i64 k ∧ v = .bool (someB (l.take k) q t) ∧ DL w wr A c l) (fun _ i _ => l.length - (intOf i).toNat)
      case atStart => exact ⟨0, Nat.zero_le _, rfl, bool_val (by simp [someB]), dl⟩
      case round =>
        clear dl
        obtain ⟨k, hk, rfl, rfl, dl⟩ := hrel
        have hl13 := dl.2.2.1
        by_cases hlt : k < l.length
        · have hi : (k : Int) < (l.length : Int) := by omega
          obtain ⟨b, o, rfl, hbl, e0, e1, e2, e3⟩ := dl.sees.lease hlt
          have HS := hid (someB_take hlt q t)
          obtain ⟨x, hx⟩ : ∃ x, x = l[k] := ⟨_, rfl⟩
          rw [← hx] at e0 e1 e2 e3 HS
          clear hx
          rcases hs : someB (l.take k) q t with _ | _
          · rcases d1 : (x.c == q) with _ | _
            · have HX := hid (HS.out.trans (show _ = false by rw [hs, Bool.false_or, Bool.eq_false_iff, ne_eq, hasAt_iff]; rintro ⟨r, _⟩; exact absurd r (by simpa using d1)))
              go_wp2
              go_roundw
              case rel => exact ⟨k + 1, by omega, by go_num, bool_val HX.out.symm, dl⟩
              case measure => simp [intOf]; omega
            · by_cases d2 : x.f ≤ t
              · by_cases d3 : t < x.u
                · have HX := hid (HS.out.trans (show _ = true by rw [hs, Bool.false_or]; exact hasAt_iff.2 ⟨by simpa using d1, d2, d3⟩))
                  go_wp2
                  go_roundw
                  case rel => exact ⟨k + 1, by omega, by go_num, bool_val HX.out.symm, dl⟩
                  case measure => simp [intOf]; omega
                · have HX := hid (HS.out.trans (show _ = false by rw [hs, Bool.false_or, Bool.eq_false_iff, ne_eq, hasAt_iff]; rintro ⟨_, _, r⟩; exact absurd r d3))
                  go_wp2
                  go_roundw
                  case rel => exact ⟨k + 1, by omega, by go_num, bool_val HX.out.symm, dl⟩
                  case measure => simp [intOf]; omega
              · have HX := hid (HS.out.trans (show _ = false by rw [hs, Bool.false_or, Bool.eq_false_iff, ne_eq, hasAt_iff]; rintro ⟨_, r, _⟩; exact absurd r d2))
                go_wp2
                go_roundw
                case rel => exact ⟨k + 1, by omega, by go_num, bool_val HX.out.symm, dl⟩
                case measure => simp [intOf]; omega
          · have HX := hid (HS.out.trans (show _ = true by rw [hs]; rfl))
            go_wp2
            go_roundw
            case rel => exact ⟨k + 1, by omega, by go_num, bool_val HX.out.symm, dl⟩
            case measure => simp [intOf]; omega
        · have hi : ¬ (k : Int) < (l.length : Int) := by omega
          rw [take_whole hlt]
          have hO := someB_owner HV.out q t
          rw [E.out] at hO
          have E1 := hid (owner_early (l := l) q (t := -1) (by omega))
          have E2 := hid (owner_early (l := l) q (t := 1000) (by omega))
          by_cases hp : 0 ≤ V
          · rw [hO, decide_eq_true hp]
            clear hO
            go_wp2_with fail
            refine (iOwnerAt_any A c l q (-1) _ dl.sees dl.2.2.2 (Nat.le_trans dl.2.2.1 (by decide))).mono ?_
            rintro e w2 ⟨he, hb⟩
            rw [E1.out] at he
            subst he
            replace dl := dl.below hb
            clear hb
            go_wp2_with fail
            refine (iOwnerAt_any A c l q 1000 _ dl.sees dl.2.2.2 (Nat.le_trans dl.2.2.1 (by decide))).mono ?_
            rintro e w2 ⟨he, hb⟩
            rw [E2.out] at he
            subst he
            replace dl := dl.below hb
            clear hb
            go_wp2
            go_ret
            exact ⟨rfl, dl.bel⟩
          · rw [hO, decide_eq_false hp]
            clear hO
            go_wp2_with fail
            refine (iOwnerAt_any A c l q (-1) _ dl.sees dl.2.2.2 (Nat.le_trans dl.2.2.1 (by decide))).mono ?_
            rintro e w2 ⟨he, hb⟩
            rw [E1.out] at he
            subst he
            replace dl := dl.below hb
            clear hb
            go_wp2_with fail
            refine (iOwnerAt_any A c l q 1000 _ dl.sees dl.2.2.2 (Nat.le_trans dl.2.2.1 (by decide))).mono ?_
            rintro e w2 ⟨he, hb⟩
            rw [E2.out] at he
            subst he
            replace dl := dl.below hb
            clear hb
            go_wp2
            go_ret
            exact ⟨rfl, dl.bel⟩
end Go.Proofs.Ytncijbmahidjbab
