/-
  The walk of the law FnServeTimesShort: at every code it returns true and changes nothing that was there. Conditions: none.
-/
import Derived.Test.YtolcnokmdohbaabLawWi
import Derived.Test.YtolcnokmdohbaabLawFrame
import Derived.BigQuiet
namespace Go.Proofs.Ytolcnokmdohbaab
open Go.RowKit Wis

set_option maxHeartbeats 8000000 in
theorem walkServeTimesShort (a : Option Addr) (len cap : Nat) (zs : List Int) (w : World) (hn : zs.length = len) (hc : len ≤ cap) (hcc : cap ≤ maxLen) (h : Sees w w.heap.size a (byts zs)) (hz : ∀ y ∈ zs, 0 ≤ y ∧ y ≤ 255) :
    Calls Try.prog 5 #[.slice a len cap] w fun e w' => e = .returned (.bool true) ∧ Below w.heap.size w w' := by
  have HE := hid hn
  have HC := hid hcc
  have HZ := hid hz
  clear hn hcc hz
  by_cases hbig : 1048576 < len
  · go_enter Try.func5, Try.ntmps5
    go_wp2
    go_ret
    exact ⟨rfl, Below.refl _ _⟩
  · go_enter Try.func5, Try.ntmps5
    go_wp2_with fail
    refine (drawServeTimes_any _ _ _ _ _ h HZ.out HE.out hc (by omega) HC.out).mono ?_
    rintro e w1 ⟨A, c, l, m, rfl, dl, hm0, hm7⟩
    have hl13 := dl.len
    have hcase : serveL l m = [] ∨ (serveB l m = true) := by
      rcases hs : serveB l m with _ | _
      · exact .inl (serve_no hs)
      · exact .inr rfl
    have HN := hid (serve_len l m)
    obtain ⟨T, hT⟩ : ∃ T, T = serveL l m := ⟨_, rfl⟩
    have E : Hid (serveL l m = T) := hid hT.symm
    rw [← hT] at hcase HN
    have HT := hid hT
    clear hT
    have HT4 : Hid (T.length ≤ 4194304) := hid (by have := HN.out; omega)
    go_wp2_with fail
    refine (iServeTimes_any A c l m _ dl.sees dl.n4').mono ?_
    rintro e w2 ⟨v1, rfl, ho1, hb⟩
    rw [E.out] at ho1
    replace dl := dl.below hb
    clear hb
    obtain ⟨A1, c1, rfl, _⟩ := ho1.form
    go_wp2_with fail
    refine (sServeTimes_any A c l m _ dl.sees dl.n4').mono ?_
    rintro e w2 ⟨v2, rfl, ho2, hb⟩
    rw [E.out] at ho2
    replace dl := dl.below hb
    replace ho1 := ho1.below hb
    clear hb
    obtain ⟨A2, c2, rfl, _⟩ := ho2.form
    go_wp2_with fail
    refine (wEq_same A1 A2 c1 c2 T _ (Sees.of_own ho1.out) (Sees.of_own ho2.out) HT4.out).mono ?_
    rintro e w2 ⟨rfl, hb⟩
    replace dl := dl.below hb
    replace ho1 := ho1.below hb
    replace ho2 := ho2.below hb
    clear hb
    clear ho2
    by_cases hq0 : T.length = 0
    · skip
      have hqb : ((T.length : Int) == 0) = true := by simpa using hq0
      have HQ := hid hq0
      clear hq0
      go_wp2_with fail
      refine (sServeTimes_any A c l m _ dl.sees dl.n4').mono ?_
      rintro e w2 ⟨v3, rfl, ho3, hb⟩
      rw [E.out] at ho3
      replace dl := dl.below hb
      replace ho1 := ho1.below hb
      clear hb
      obtain ⟨A3, c3, rfl, _⟩ := ho3.form
      go_wp2_with fail
      refine (wEq_same A1 A3 c1 c3 T _ (Sees.of_own ho1.out) (Sees.of_own ho3.out) HT4.out).mono ?_
      rintro e w2 ⟨rfl, hb⟩
      replace dl := dl.below hb
      replace ho1 := ho1.below hb
      replace ho3 := ho3.below hb
      clear hb
      clear ho3
      go_wp2
      go_ret
      exact ⟨by simp, dl.bel⟩
    · skip
      have hqb : ((T.length : Int) == 0) = false := beq_eq_false_iff_ne.2 (by omega)
      have hs : serveB l m = true := hcase.resolve_left (fun e => hq0 (by rw [e]; rfl))
      have hTl : T.length = l.length := by rw [HT.out]; exact serve_all hs
      have hcap := dl.cap
      have hcp1 : T.length ≤ c1 := by obtain ⟨_, _, e, r1, _⟩ := own_form ho1.out; injection e with _ _ e; omega
      obtain ⟨n, hn⟩ : ∃ n, l.length = n + 1 := ⟨l.length - 1, by omega⟩
      have q0 : (l.length : Int) - 1 = (n : Int) := by omega
      have q1 : (0 : Int) ≤ (n : Int) := by omega
      have q2 : (n : Int) ≤ (l.length : Int) := by omega
      have q2c : (n : Int) ≤ (c : Int) := by omega
      have q2d : (n : Int) ≤ (c1 : Int) := by omega
      have q2e : (n : Int) ≤ (T.length : Int) := by omega
      have q3 : IntKind.i64.wrap ((l.length : Int) - 1) = (n : Int) := by rw [q0, IntKind.wrap_i64]; omega
      have q5 : n ≤ c := by omega
      have q6 : n ≤ c1 := by omega
      have q7 : n ≤ 12 := by omega
      have E2 : Hid (serveL (l.take n) m = T.take n) := hid (by rw [serve_take hs, HT.out])
      have HLT := hid (show (l.take n).length = n by rw [List.length_take]; omega)
      have HTT := hid (show (T.take n).length = n by rw [List.length_take]; omega)
      have hs1b : Sees w2 w2.heap.size A1 (ints (T.take n)) := by rw [show ints (T.take n) = (ints T).take n by simp [ints]]; exact (Sees.of_own ho1.out).take n
      clear hcase hs hTl hn hcp1 hcap
      go_wp2_with fail
      go_region_held3 (fun _ => True)
        (trivial)
        (first
          | (go_at_call 10; (with_reducible refine (iServeTimes_len (l := l.take n) HLT.out (wcells_take dl.drew.sees _) (by rw [HLT.out]; omega)).mono ?_); rintro e w3 ⟨v3, rfl, ho3, hb3⟩; rw [E2.out] at ho3; obtain ⟨A3, c3, hv3, _⟩ := ho3.form; rw [HTT.out] at hv3; subst hv3; have hd3 := dl.drew.below hb3; have hs3 := (hs1b.drew.below hb3).more hb3.size)
          | (go_at_call 11; (with_reducible refine (wEq_len (Q := T.take n) HTT.out (Sees.of_own (show World.ownsRow _ _ _ _ (.slice _ n _) n _ by have hh := ho3.out; rw [HTT.out] at hh; exact hh)) hs3 (by rw [HTT.out]; omega)).mono ?_); rintro e w4 ⟨rfl, hb4⟩; have hd4 := hd3.below hb4)
          | fail)
      all_goals
        go_wp2
        go_ret
        exact ⟨rfl, hd4.bel⟩
end Go.Proofs.Ytolcnokmdohbaab
