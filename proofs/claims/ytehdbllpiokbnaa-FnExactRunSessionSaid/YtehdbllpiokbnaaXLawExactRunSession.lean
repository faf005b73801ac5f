/-
  The walk of the exact law FnExactRunSession: at every argument it returns true and changes nothing that was there. Conditions: none.
-/
import Derived.Test.YtehdbllpiokbnaaSesE

namespace Go.Proofs.Ytehdbllpiokbnaa
open Go.RowKit Txt Pol Ses

set_option maxHeartbeats 8000000 in
theorem walkExactRunSession (A : Option Addr) (c : Nat) (ls : List (List UInt8)) (w : World) (hm : ls.length ≤ maxLen) (_hc : ls.length ≤ c) (h : Sees w w.heap.size A (strip tcell ls)) (hs : ∀ t ∈ ls, t.length ≤ maxLen) :
    Calls Try.prog 7 #[.slice A ls.length c] w fun e w' => e = .returned (.bool true) ∧ Below w.heap.size w w' := by
  have HM := hid hm
  have HS := hid hs
  clear hm hs
  have hB0 := Below.refl w.heap.size w
  go_enter Try.func7, Try.ntmps7
  go_wp2_with fail
  with_reducible refine (szStringS_any A c ls _ h HM.out HS.out).mono ?_
  rintro e w' ⟨⟨r, rfl, hr⟩, rfl⟩
  by_cases hneg : r < 0
  · clear hr
    go_wp2
    go_ret
    exact ⟨rfl, hB0⟩
  · obtain ⟨hn, hl⟩ := hr (by omega)
    have HN := hid hn
    have HLL := hid hl
    have H4 := hid (show ls.length ≤ 4194304 by omega)
    obtain ⟨V, hV⟩ : ∃ V, V = rSes ls := ⟨_, rfl⟩
    have HV := hid hV.symm
    have hvv : (V == V) = true := by simp
    clear hr hn hl hV
    go_wp2_with fail
    with_reducible refine (toStringS_any A c ls _ h H4.out).mono ?_
    rintro e w1 ⟨v1, rfl, ho1, hb1⟩
    have hB1 := hB0.trans (hb1.mono hB0.size)
    obtain ⟨A1, c1, rfl, _, _, s1⟩ := OwnS.form ho1
    clear ho1 hb1 hB0
    go_wp2_with fail
    with_reducible refine (sRunSession_any A1 c1 ls _ s1 HN.out HLL.out).mono ?_
    rintro e w2 ⟨he, hb2⟩
    rw [HV.out] at he
    subst he
    unfold tx
    have hB2 := hB1.trans (hb2.mono hB1.size)
    clear s1 hb2 hB1
    go_wp2_with fail
    with_reducible refine (toStringS_any A c ls _ ((h.below hB2).more hB2.size) H4.out).mono ?_
    rintro e w3 ⟨v3, rfl, ho3, hb3⟩
    have hB3 := hB2.trans (hb3.mono hB2.size)
    obtain ⟨A3, c3, rfl, hc3, hm3, s3⟩ := OwnS.form ho3
    have HC3 := hid hc3
    have HM3 := hid hm3
    clear ho3 hb3 hB2 hc3 hm3
    go_wp2_with fail
    with_reducible refine (iRunSession_any A3 c3 ls _ s3 HC3.out HM3.out HN.out HLL.out).mono ?_
    rintro e w4 ⟨he, hb4⟩
    rw [HV.out] at he
    subst he
    unfold tx
    have hB4 := hB3.trans (hb4.mono hB3.size)
    have s4 := (s3.below hb4).more hb4.size
    clear s3 hb4 hB3
    go_wp2_with fail
    with_reducible refine (toStringS_any A c ls _ ((h.below hB4).more hB4.size) H4.out).mono ?_
    rintro e w5 ⟨v5, rfl, ho5, hb5⟩
    have hB5 := hB4.trans (hb5.mono hB4.size)
    have s5 := (s4.below hb5).more hb5.size
    obtain ⟨A5, c5, rfl, _, _, s6⟩ := OwnS.form ho5
    clear ho5 hb5 hB4 s4
    go_wp2_with fail
    with_reducible refine (eqStringS_same A3 A5 c3 c5 ls _ s5 s6 H4.out).mono ?_
    rintro e w6 ⟨rfl, hb6⟩
    have hB6 := hB5.trans (hb6.mono hB5.size)
    go_wp2
    go_ret
    exact ⟨rfl, hB6⟩
end Go.Proofs.Ytehdbllpiokbnaa
