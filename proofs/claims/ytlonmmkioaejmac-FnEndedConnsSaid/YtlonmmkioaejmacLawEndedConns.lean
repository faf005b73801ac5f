/-
  The walk of the law FnEndedConns: at every code it returns true and changes nothing that was there. Conditions: none.
-/
import Derived.Test.YtlonmmkioaejmacAgGen
import Derived.Test.YtlonmmkioaejmacAgC
import Derived.Test.YtlonmmkioaejmacAgeMathB
import Derived.Test.YtlonmmkioaejmacLawAg
import Derived.Test.YtlonmmkioaejmacLawAgE
import Derived.Test.YtlonmmkioaejmacLawFrame
import Derived.BigQuiet
import Derived.Deep.RegionHeldLaw
namespace Go.Proofs.Ytlonmmkioaejmac
open Go.RowKit Age

set_option maxHeartbeats 4000000 in
theorem walkEndedConns (a : Option Addr) (len cap : Nat) (zs : List Int) (w : World) (hn : zs.length = len) (hc : len ≤ cap) (hcc : cap ≤ maxLen) (h : Sees w w.heap.size a (byts zs)) (hz : ∀ y ∈ zs, 0 ≤ y ∧ y ≤ 255) :
    Calls Try.prog 3 #[.slice a len cap] w fun e w' => e = .returned (.bool true) ∧ Below w.heap.size w w' := by
  have HE := hid hn
  have HC := hid hcc
  have HZ := hid hz
  clear hn hcc hz
  by_cases hbig : 1048576 < len
  · go_enter Try.func3, Try.ntmps3
    go_wp2
    go_ret
    exact ⟨rfl, Below.refl _ _⟩
  · go_enter Try.func3, Try.ntmps3
    go_wp2_with fail
    refine (drawEndedConns_any _ _ _ _ _ h HZ.out HE.out hc (by omega) HC.out).mono ?_
    rintro e w1 ⟨A, c, l, now, life, rest, rfl, dl, hn0, hn1, hlo, hro⟩
    have HLN := hid (ended_len l now life rest)
    have HLE := hid (ended_le (l := l) (now := now) (life := life) (rest := rest))
    obtain ⟨Q, hQ⟩ : ∃ Q, Q = ended l now life rest := ⟨_, rfl⟩
    have EQ : Hid (ended l now life rest = Q) := hid hQ.symm
    rw [← hQ] at HLN HLE
    have HQ4 : Hid (Q.length ≤ 4194304) := hid (Nat.le_trans HLN.out (by decide))
    clear hQ
    go_wp2_with fail
    refine (iEndedConns_any A c l now life rest _ dl.sees (dl.n4 (by decide))).mono ?_
    rintro e w2 ⟨v1, rfl, ho1, hb⟩
    rw [EQ.out] at ho1
    replace dl := dl.below hb
    clear hb
    obtain ⟨A1, c1, rfl, _⟩ := ho1.form
    go_wp2_with fail
    refine (sEndedConns_any A c l now life rest _ dl.sees (dl.n4 (by decide))).mono ?_
    rintro e w2 ⟨v2, rfl, ho2, hb⟩
    rw [EQ.out] at ho2
    replace dl := dl.below hb
    replace ho1 := ho1.below hb
    clear hb
    obtain ⟨A2, c2, rfl, _⟩ := ho2.form
    go_wp2_with fail
    refine (eqI4_same A1 A2 c1 c2 Q _ (Sees.of_own ho1.out) (Sees.of_own ho2.out) HQ4.out).mono ?_
    rintro e w2 ⟨rfl, hb⟩
    replace dl := dl.below hb
    replace ho1 := ho1.below hb
    clear hb
    by_cases hq0 : Q.length = 0
    · have hqb : ((Q.length : Int) == 0) = true := by simpa using hq0
      clear hq0
      go_wp2_with fail
      refine (sEndedConns_any A c l now life rest _ dl.sees (dl.n4 (by decide))).mono ?_
      rintro e w2 ⟨v3, rfl, ho3, hb⟩
      rw [EQ.out] at ho3
      replace dl := dl.below hb
      replace ho1 := ho1.below hb
      clear hb
      obtain ⟨A3, c3, rfl, _⟩ := ho3.form
      go_wp2_with fail
      refine (eqI4_same A1 A3 c1 c3 Q _ (Sees.of_own ho1.out) (Sees.of_own ho3.out) HQ4.out).mono ?_
      rintro e w2 ⟨rfl, hb⟩
      replace dl := dl.below hb
      replace ho1 := ho1.below hb
      clear hb
      go_wp2
      go_ret
      exact ⟨by simp, dl.bel⟩
    · have hqb : ((Q.length : Int) == 0) = false := beq_eq_false_iff_ne.2 (by omega)
      have harg := ended_pos (l := l) (now := now) (life := life) (rest := rest) (by rw [EQ.out]; omega)
      have HARG := hid harg
      obtain ⟨a1, a2, a3, a4⟩ := end_args.1 harg
      have HV := hid a1
      have hq6 := HLN.out
      have hle := HLE.out
      have hl6 := (agesB_iff.1 a1).1
      obtain ⟨r1, r2⟩ := spanB_iff.1 a4
      have HS1 := hid a3
      clear harg a1 a3 a4 hq0
      go_wp2
      go_loopw [8] (fun i wr => ∃ k : Nat, k ≤ l.length ∧ i = .int .i64 k ∧ DA w wr A c l ∧ ∃ B, Own wr B (.slice A1 Q.length c1) Q) (fun i _ => l.length - (intOf i).toNat)
      case atStart => exact ⟨0, Nat.zero_le _, rfl, dl, _, ho1⟩
      case round =>
        clear dl ho1
        obtain ⟨k, hk, rfl, dl, B, ho1⟩ := hrel
        have hs1 := Sees.of_own ho1.out
        by_cases hlt : k < l.length
        · have hi : (k : Int) < (l.length : Int) := by omega
          obtain ⟨b, o, rfl, hbl, e0, e1⟩ := dl.sees.age hlt
          have HI := hid (ended_is HARG.out hlt)
          rw [EQ.out] at HI
          obtain ⟨g1, g2, g3⟩ := ages_at HV.out hlt
          obtain ⟨x, hx⟩ : ∃ x, x = l[k] := ⟨_, rfl⟩
          rw [← hx] at e0 e1 HI g1 g2 g3
          clear hx
          obtain ⟨V, hV⟩ : ∃ V, V = Age.lifeOf (k : Int) life := ⟨_, rfl⟩
          have EV : Hid (Age.lifeOf (k : Int) life = V) := hid hV.symm
          rw [← hV] at HI
          clear hV
          have hw1 : IntKind.i64.wrap (now - x.b) = now - x.b := by rw [IntKind.wrap_i64]; omega
          have hw2 : IntKind.i64.wrap (now - x.u) = now - x.u := by rw [IntKind.wrap_i64]; omega
          by_cases d1 : now - x.b ≥ V
          · have HM := hid (show memB Q (k : Int) = true from memB_iff.2 (HI.out.2 (.inl d1)))
            go_wp2
            go_quiet ((first | (go_at_call 12; (with_reducible refine isIn_q A1 c1 Q (k : Int) _ _ _ hs1 (Nat.le_trans hq6 (by decide)) HM.out)) | (go_at_call 13; exact Calls.quiet_of_same ((iLifeOf_any _ _ _).mono fun _ _ ⟨he, hw⟩ => ⟨by rw [he, EV.out], hw.symm⟩))))
            go_wp2
            go_roundw
            case rel => exact ⟨k + 1, by omega, by go_num, dl.drewN _, B, ho1⟩
            case measure => simp [intOf]; omega
          · by_cases d2 : now - x.u ≥ rest
            · have HM := hid (show memB Q (k : Int) = true from memB_iff.2 (HI.out.2 (.inr d2)))
              go_wp2
              go_quiet ((first | (go_at_call 12; (with_reducible refine isIn_q A1 c1 Q (k : Int) _ _ _ hs1 (Nat.le_trans hq6 (by decide)) HM.out)) | (go_at_call 13; exact Calls.quiet_of_same ((iLifeOf_any _ _ _).mono fun _ _ ⟨he, hw⟩ => ⟨by rw [he, EV.out], hw.symm⟩))))
              go_wp2
              go_roundw
              case rel => exact ⟨k + 1, by omega, by go_num, dl.drewN _, B, ho1⟩
              case measure => simp [intOf]; omega
            · have HM := hid (show memB Q (k : Int) = false from Bool.eq_false_iff.2 fun hh => (HI.out.1 (memB_iff.1 hh)).elim d1 d2)
              go_wp2
              go_quiet ((first | (go_at_call 12; (with_reducible refine isIn_q A1 c1 Q (k : Int) _ _ _ hs1 (Nat.le_trans hq6 (by decide)) HM.out)) | (go_at_call 13; exact Calls.quiet_of_same ((iLifeOf_any _ _ _).mono fun _ _ ⟨he, hw⟩ => ⟨by rw [he, EV.out], hw.symm⟩))))
              go_wp2
              go_roundw
              case rel => exact ⟨k + 1, by omega, by go_num, dl.drewN _, B, ho1⟩
              case measure => simp [intOf]; omega
        · have hi : ¬ (k : Int) < (l.length : Int) := by omega
          have hle2 : (Q.length : Int) ≤ (l.length : Int) := by omega
          go_wp2
          go_ret
          exact ⟨by simp; try omega, dl.bel⟩
end Go.Proofs.Ytlonmmkioaejmac
