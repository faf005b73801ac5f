/-
  What EndedConns and NextEnd answer, the program's and the model's. Condition: the list lies in memory.
-/
import Derived.Test.YtlonmmkioaejmacAgB
import Derived.Test.YtlonmmkioaejmacSsAge
import Derived.Test.YtlonmmkioaejmacOwnI
import Derived.Test.YtlonmmkioaejmacApp
namespace Go.Proofs.Ytlonmmkioaejmac
open Go.RowKit Age

theorem ended_no {l : List Ag} {now life rest : Int} (h : endArgs l now life rest = false) : ended l now life rest = [] := by unfold ended; rw [h]; rfl
theorem ended_yes {l : List Ag} {now life rest : Int} (h1 : agesB l = true) (h2 : timeB now = true) (h3 : spanB life = true) (h4 : spanB rest = true) : ended l now life rest = endedTo l now life rest l.length := by unfold ended endArgs; rw [h1, h2, h3, h4]; rfl
theorem next_no {l : List Ag} {life rest : Int} (h : (agesB l && (spanB life && spanB rest)) = false) : Age.next l life rest = -1 := by unfold Age.next; rw [h]; rfl
theorem next_yes {l : List Ag} {life rest : Int} (h1 : agesB l = true) (h3 : spanB life = true) (h4 : spanB rest = true) : Age.next l life rest = nextTo l life rest l.length := by unfold Age.next; rw [h1, h3, h4]; rfl

set_option maxHeartbeats 4000000 in
theorem iEndedConns_any (A : Option Addr) (c : Nat) (l : List Ag) (now life rest : Int) (w : World) (h : Sees w w.heap.size A (strip acells l)) (hn : l.length ≤ 4194304) :
    Calls Try.prog 9 #[.slice A l.length c, .int .i64 now, .int .i64 life, .int .i64 rest] w fun e w' => ∃ v, e = .returned v ∧ Own w' w.heap.size v (ended l now life rest) ∧ Below w.heap.size w w' := by
  obtain ⟨i0, hi0, hz0, hz1, hz2⟩ := info_parts intInfo
  have HN := hid hn
  clear hn
  rcases hv : agesB l with _ | _
  · have Hv := hid hv
    have E := hid (ended_no (l := l) (now := now) (life := life) (rest := rest) (by unfold endArgs; rw [hv]; simp))
    clear hv
    go_enter Try.func9, Try.ntmps9
    go_wp2_with fail
    refine (iValidAges_any A c l _ h HN.out).mono ?_
    rintro e w1 ⟨he, hb1⟩
    rw [Hv.out] at he
    subst he
    go_wp2
    go_ret
    exact ⟨_, rfl, by rw [E.out]; exact Own.none_ _ _, hb1⟩
  · have Hv := hid hv
    rcases ht : timeB now with _ | _
    · have Ht := hid ht
      have E := hid (ended_no (l := l) (now := now) (life := life) (rest := rest) (by unfold endArgs; rw [ht]; simp))
      clear hv ht
      go_enter Try.func9, Try.ntmps9
      go_wp2_with fail
      refine (iValidAges_any A c l _ h HN.out).mono ?_
      rintro e w1 ⟨he, hb1⟩
      rw [Hv.out] at he
      subst he
      go_wp2_with fail
      refine (validTime_any now _).mono ?_
      rintro e w2 ⟨he, rfl⟩
      rw [Ht.out] at he
      subst he
      go_wp2
      go_ret
      exact ⟨_, rfl, by rw [E.out]; exact Own.none_ _ _, hb1⟩
    · have Ht := hid ht
      rcases hs : spanB life with _ | _
      · have Hs := hid hs
        have E := hid (ended_no (l := l) (now := now) (life := life) (rest := rest) (by unfold endArgs; rw [hs]; simp))
        clear hv ht hs
        go_enter Try.func9, Try.ntmps9
        go_wp2_with fail
        refine (iValidAges_any A c l _ h HN.out).mono ?_
        rintro e w1 ⟨he, hb1⟩
        rw [Hv.out] at he
        subst he
        go_wp2_with fail
        refine (validTime_any now _).mono ?_
        rintro e w2 ⟨he, rfl⟩
        rw [Ht.out] at he
        subst he
        go_wp2_with fail
        refine (validSpan_any life _).mono ?_
        rintro e w2 ⟨he, rfl⟩
        rw [Hs.out] at he
        subst he
        go_wp2
        go_ret
        exact ⟨_, rfl, by rw [E.out]; exact Own.none_ _ _, hb1⟩
      · have Hs := hid hs
        rcases hr : spanB rest with _ | _
        · have Hr := hid hr
          have E := hid (ended_no (l := l) (now := now) (life := life) (rest := rest) (by unfold endArgs; rw [hr]; simp))
          clear hv ht hs hr
          go_enter Try.func9, Try.ntmps9
          go_wp2_with fail
          refine (iValidAges_any A c l _ h HN.out).mono ?_
          rintro e w1 ⟨he, hb1⟩
          rw [Hv.out] at he
          subst he
          go_wp2_with fail
          refine (validTime_any now _).mono ?_
          rintro e w2 ⟨he, rfl⟩
          rw [Ht.out] at he
          subst he
          go_wp2_with fail
          refine (validSpan_any life _).mono ?_
          rintro e w2 ⟨he, rfl⟩
          rw [Hs.out] at he
          subst he
          go_wp2_with fail
          refine (validSpan_any rest _).mono ?_
          rintro e w2 ⟨he, rfl⟩
          rw [Hr.out] at he
          subst he
          go_wp2
          go_ret
          exact ⟨_, rfl, by rw [E.out]; exact Own.none_ _ _, hb1⟩
        · have Hr := hid hr
          have E := hid (ended_yes hv ht hs hr)
          have HL := hid (agesB_iff.1 hv).1
          clear hv ht hs hr
          go_enter Try.func9, Try.ntmps9
          go_wp2_with fail
          refine (iValidAges_any A c l _ h HN.out).mono ?_
          rintro e w1 ⟨he, hb1⟩
          rw [Hv.out] at he
          subst he
          go_wp2_with fail
          refine (validTime_any now _).mono ?_
          rintro e w2 ⟨he, rfl⟩
          rw [Ht.out] at he
          subst he
          go_wp2_with fail
          refine (validSpan_any life _).mono ?_
          rintro e w2 ⟨he, rfl⟩
          rw [Hs.out] at he
          subst he
          go_wp2_with fail
          refine (validSpan_any rest _).mono ?_
          rintro e w2 ⟨he, rfl⟩
          rw [Hr.out] at he
          subst he
          go_wp2
          go_loopw [9, 32] (fun v i wr => ∃ k : Nat, k ≤ l.length ∧ i = .int .i64 k ∧ Own wr w.heap.size v (endedTo l now life rest k) ∧ Below w.heap.size w wr) (fun _ i _ => l.length - (intOf i).toNat)
          case atStart => exact ⟨0, Nat.zero_le _, rfl, Own.none_ _ _, hb1⟩
          case round =>
            obtain ⟨k, hk, rfl, ho, hb⟩ := hrel
            have hl6 := HL.out
            by_cases hlt : k < l.length
            · have hi : (k : Int) < (l.length : Int) := by omega
              obtain ⟨b, o, rfl, hbl, e0, e1⟩ := (h.below hb).age hlt
              have HS := hid (endedTo_succ l now life rest k)
              rw [endAt_eq hlt] at HS
              have hlen := endedTo_len l now life rest k
              have HO := hid (ages_at Hv.out hlt)
              obtain ⟨x, hx⟩ : ∃ x, x = l[k] := ⟨_, rfl⟩
              rw [← hx] at e0 e1 HS HO
              clear hx
              obtain ⟨B, hB⟩ : ∃ B, B = endedTo l now life rest k := ⟨_, rfl⟩
              rw [← hB] at ho hlen HS
              clear hB
              have hz := hb.size
              have hbw : b < wr.heap.size := by omega
              obtain ⟨V, hV⟩ : ∃ V, V = endV (k : Int) x life rest := ⟨_, rfl⟩
              have EV : Hid (endV (k : Int) x life rest = V) := hid hV.symm
              rw [← hV] at HS
              clear hV
              by_cases hle : V ≤ now
              · have HX := hid (HS.out.trans (by rw [if_pos hle]))
                go_wp2_with fail
                refine (endOf_any (k : Int) x life rest _ (by omega) (by omega) HO.out Hs.out Hr.out).mono ?_
                rintro e w4 ⟨he, hb4⟩
                rw [EV.out] at he
                subst he
                have hbq := (hb.alloc hz _).trans (hb4.mono (hb.alloc hz _).size)
                have hoq := (ho.below ((Below.refl _ _).alloc (Nat.le_refl _) _)).below hb4
                have hzq := hbq.size
                clear ho hb hb4 hz e0 e1
                go_wp2_with (at_builtin; refine wpList_append_own _ rfl _ _ 26 rfl w.heap.size 3 i0 (.int .i64 0) 1 8 Try.underlying26 hi0 hz0 hz1 hz2 rfl (by decide) _ _ _ rfl (hoq.out.alloc _) ⟨w4.heap.size, 0, none⟩ 1 1 [.int .i64 k] rfl rfl (cell_one_new _ _ _) ?c2 ?c3 ?c4 ?c5 ?_)
                case c2 => simp [Value.oneCell']
                case c3 => unfold maxLen; omega
                case c4 => omega
                case c5 => simp; omega
                case _ =>
                  intro v1 w5 h1 hg1 _
                  obtain ⟨ho1, hb5⟩ := hoq.snoc hbq (Nat.le_refl _) h1 hg1
                  clear h1 hg1
                  go_wp2
                  go_roundw
                  case rel => exact ⟨k + 1, by omega, by go_num, by rw [HX.out]; exact ho1, hb5⟩
                  case measure => simp [intOf]; omega
              · have HX := hid (HS.out.trans (by rw [if_neg hle, List.append_nil]))
                go_wp2_with fail
                refine (endOf_any (k : Int) x life rest _ (by omega) (by omega) HO.out Hs.out Hr.out).mono ?_
                rintro e w4 ⟨he, hb4⟩
                rw [EV.out] at he
                subst he
                have hbq := (hb.alloc hz _).trans (hb4.mono (hb.alloc hz _).size)
                have hoq := (ho.below ((Below.refl _ _).alloc (Nat.le_refl _) _)).below hb4
                go_wp2
                go_roundw
                case rel => exact ⟨k + 1, by omega, by go_num, by rw [HX.out]; exact hoq, hbq⟩
                case measure => simp [intOf]; omega
            · have hi : ¬ (k : Int) < (l.length : Int) := by omega
              have hke : k = l.length := by omega
              have HE := hid (show endedTo l now life rest k = ended l now life rest by rw [E.out, hke])
              rw [HE.out] at ho
              clear hke
              go_wp2
              go_ret
              exact ⟨_, rfl, ho, hb⟩

set_option maxHeartbeats 4000000 in
theorem sEndedConns_any (A : Option Addr) (c : Nat) (l : List Ag) (now life rest : Int) (w : World) (h : Sees w w.heap.size A (strip acells l)) (hn : l.length ≤ 4194304) :
    Calls Try.prog 11 #[.slice A l.length c, .int .i64 now, .int .i64 life, .int .i64 rest] w fun e w' => ∃ v, e = .returned v ∧ Own w' w.heap.size v (ended l now life rest) ∧ Below w.heap.size w w' := by
  obtain ⟨i0, hi0, hz0, hz1, hz2⟩ := info_parts intInfo
  have HN := hid hn
  clear hn
  have ho0 := Own.made w w.heap.size (Nat.le_refl _)
  have hb0 := (Below.refl w.heap.size w).alloc (Nat.le_refl _) (.cells #[] 3)
  rcases hv : agesB l with _ | _
  · have Hv := hid hv
    have E := hid (ended_no (l := l) (now := now) (life := life) (rest := rest) (by unfold endArgs; rw [hv]; simp))
    clear hv
    go_enter Try.func11, Try.ntmps11
    go_wp2_with fail
    refine (svalidAges_any A c l _ ((h.alloc (Nat.le_refl _) _).more (by simp)) HN.out).mono ?_
    rintro e w1 ⟨he, hb1⟩
    rw [Hv.out] at he
    subst he
    go_wp2
    go_ret
    exact ⟨_, rfl, by rw [E.out]; exact Own.none_ _ _, (hb0.trans (hb1.mono hb0.size))⟩
  · have Hv := hid hv
    rcases ht : timeB now with _ | _
    · have Ht := hid ht
      have E := hid (ended_no (l := l) (now := now) (life := life) (rest := rest) (by unfold endArgs; rw [ht]; simp))
      clear hv ht
      go_enter Try.func11, Try.ntmps11
      go_wp2_with fail
      refine (svalidAges_any A c l _ ((h.alloc (Nat.le_refl _) _).more (by simp)) HN.out).mono ?_
      rintro e w1 ⟨he, hb1⟩
      rw [Hv.out] at he
      subst he
      go_wp2_with fail
      refine (inRange_any now 0 1000 _).mono ?_
      rintro e w2 ⟨he, rfl⟩
      rw [← time_inB] at he
      rw [Ht.out] at he
      subst he
      go_wp2
      go_ret
      exact ⟨_, rfl, by rw [E.out]; exact Own.none_ _ _, (hb0.trans (hb1.mono hb0.size))⟩
    · have Ht := hid ht
      rcases hs : spanB life with _ | _
      · have Hs := hid hs
        have E := hid (ended_no (l := l) (now := now) (life := life) (rest := rest) (by unfold endArgs; rw [hs]; simp))
        clear hv ht hs
        go_enter Try.func11, Try.ntmps11
        go_wp2_with fail
        refine (svalidAges_any A c l _ ((h.alloc (Nat.le_refl _) _).more (by simp)) HN.out).mono ?_
        rintro e w1 ⟨he, hb1⟩
        rw [Hv.out] at he
        subst he
        go_wp2_with fail
        refine (inRange_any now 0 1000 _).mono ?_
        rintro e w2 ⟨he, rfl⟩
        rw [← time_inB] at he
        rw [Ht.out] at he
        subst he
        go_wp2_with fail
        refine (inRange_any life 1 1000 _).mono ?_
        rintro e w2 ⟨he, rfl⟩
        rw [← span_inB] at he
        rw [Hs.out] at he
        subst he
        go_wp2
        go_ret
        exact ⟨_, rfl, by rw [E.out]; exact Own.none_ _ _, (hb0.trans (hb1.mono hb0.size))⟩
      · have Hs := hid hs
        rcases hr : spanB rest with _ | _
        · have Hr := hid hr
          have E := hid (ended_no (l := l) (now := now) (life := life) (rest := rest) (by unfold endArgs; rw [hr]; simp))
          clear hv ht hs hr
          go_enter Try.func11, Try.ntmps11
          go_wp2_with fail
          refine (svalidAges_any A c l _ ((h.alloc (Nat.le_refl _) _).more (by simp)) HN.out).mono ?_
          rintro e w1 ⟨he, hb1⟩
          rw [Hv.out] at he
          subst he
          go_wp2_with fail
          refine (inRange_any now 0 1000 _).mono ?_
          rintro e w2 ⟨he, rfl⟩
          rw [← time_inB] at he
          rw [Ht.out] at he
          subst he
          go_wp2_with fail
          refine (inRange_any life 1 1000 _).mono ?_
          rintro e w2 ⟨he, rfl⟩
          rw [← span_inB] at he
          rw [Hs.out] at he
          subst he
          go_wp2_with fail
          refine (inRange_any rest 1 1000 _).mono ?_
          rintro e w2 ⟨he, rfl⟩
          rw [← span_inB] at he
          rw [Hr.out] at he
          subst he
          go_wp2
          go_ret
          exact ⟨_, rfl, by rw [E.out]; exact Own.none_ _ _, (hb0.trans (hb1.mono hb0.size))⟩
        · have Hr := hid hr
          have E := hid (ended_yes hv ht hs hr)
          have HL := hid (agesB_iff.1 hv).1
          clear hv ht hs hr
          go_enter Try.func11, Try.ntmps11
          go_wp2_with fail
          refine (svalidAges_any A c l _ ((h.alloc (Nat.le_refl _) _).more (by simp)) HN.out).mono ?_
          rintro e w1 ⟨he, hb1⟩
          rw [Hv.out] at he
          subst he
          go_wp2_with fail
          refine (inRange_any now 0 1000 _).mono ?_
          rintro e w2 ⟨he, rfl⟩
          rw [← time_inB] at he
          rw [Ht.out] at he
          subst he
          go_wp2_with fail
          refine (inRange_any life 1 1000 _).mono ?_
          rintro e w2 ⟨he, rfl⟩
          rw [← span_inB] at he
          rw [Hs.out] at he
          subst he
          go_wp2_with fail
          refine (inRange_any rest 1 1000 _).mono ?_
          rintro e w2 ⟨he, rfl⟩
          rw [← span_inB] at he
          rw [Hr.out] at he
          subst he
          go_wp2
          go_loopw [9, 10] (fun v i wr => ∃ k : Nat, k ≤ l.length ∧ i = .int .i64 k ∧ Own wr w.heap.size v (endedTo l now life rest k) ∧ Below w.heap.size w wr) (fun _ i _ => l.length - (intOf i).toNat)
          case atStart => exact ⟨0, Nat.zero_le _, rfl, ho0.below hb1, hb0.trans (hb1.mono hb0.size)⟩
          case round =>
            obtain ⟨k, hk, rfl, ho, hb⟩ := hrel
            have hl6 := HL.out
            by_cases hlt : k < l.length
            · have hi : (k : Int) < (l.length : Int) := by omega
              obtain ⟨b, o, rfl, hbl, e0, e1⟩ := (h.below hb).age hlt
              have HS := hid (endedTo_succ l now life rest k)
              rw [endAt_eq hlt] at HS
              have hlen := endedTo_len l now life rest k
              have HO := hid (ages_at Hv.out hlt)
              obtain ⟨x, hx⟩ : ∃ x, x = l[k] := ⟨_, rfl⟩
              rw [← hx] at e0 e1 HS HO
              clear hx
              obtain ⟨B, hB⟩ : ∃ B, B = endedTo l now life rest k := ⟨_, rfl⟩
              rw [← hB] at ho hlen HS
              clear hB
              have hz := hb.size
              obtain ⟨V, hV⟩ : ∃ V, V = lifeV (k : Int) life := ⟨_, rfl⟩
              have EV : Hid (lifeV (k : Int) life = V) := hid hV.symm
              have HLE := hid (endV_le (n := (k : Int)) (x := x) (life := life) (rest := rest) (now := now))
              rw [← hV] at HLE
              clear hV
              obtain ⟨g1, g2, g3⟩ := HO.out
              have ht := timeB_iff.1 Ht.out
              have hw1 : IntKind.i64.wrap (now - x.b) = now - x.b := by rw [IntKind.wrap_i64]; omega
              have hw2 : IntKind.i64.wrap (now - x.u) = now - x.u := by rw [IntKind.wrap_i64]; omega
              clear ht
              by_cases hb1' : now - x.b ≥ V
              · have HX := hid (HS.out.trans (by rw [if_pos (HLE.out.2 (.inl hb1'))]))
                go_wp2
                go_quiet ((go_at_call 29; exact Calls.quiet_of_same ((slifeOf_any _ _ _ (by omega) (by omega) Hs.out).mono fun _ _ ⟨he, hw⟩ => ⟨by rw [he, EV.out], hw.symm⟩)))
                have hoq : Own (wr.drewN nq) w.heap.size _ B := ho
                have hbq := below_drewN hb nq
                have hzq := hbq.size
                clear ho hb hw1 hw2 e0 e1
                go_wp2_with (at_builtin; refine wpList_append_own _ rfl _ _ 26 rfl w.heap.size 3 i0 (.int .i64 0) 1 8 Try.underlying26 hi0 hz0 hz1 hz2 rfl (by decide) _ _ _ rfl (hoq.out.alloc _) ⟨wr.heap.size, 0, none⟩ 1 1 [.int .i64 k] rfl rfl (cell_one_new _ _ _) ?c2 ?c3 ?c4 ?c5 ?_)
                case c2 => simp [Value.oneCell']
                case c3 => unfold maxLen; omega
                case c4 => omega
                case c5 => simp; omega
                case _ =>
                  intro v1 w5 h1 hg1 _
                  obtain ⟨ho1, hb5⟩ := hoq.snoc hbq (Nat.le_refl _) h1 hg1
                  clear h1 hg1
                  go_wp2
                  go_roundw
                  case rel => exact ⟨k + 1, by omega, by go_num, by rw [HX.out]; exact ho1, hb5⟩
                  case measure => simp [intOf]; omega
              · by_cases hb2' : now - x.u ≥ rest
                · have HX := hid (HS.out.trans (by rw [if_pos (HLE.out.2 (.inr hb2'))]))
                  go_wp2
                  go_quiet ((go_at_call 29; exact Calls.quiet_of_same ((slifeOf_any _ _ _ (by omega) (by omega) Hs.out).mono fun _ _ ⟨he, hw⟩ => ⟨by rw [he, EV.out], hw.symm⟩)))
                  have hoq : Own (wr.drewN nq) w.heap.size _ B := ho
                  have hbq := below_drewN hb nq
                  have hzq := hbq.size
                  clear ho hb hw1 hw2 e0 e1
                  go_wp2_with (at_builtin; refine wpList_append_own _ rfl _ _ 26 rfl w.heap.size 3 i0 (.int .i64 0) 1 8 Try.underlying26 hi0 hz0 hz1 hz2 rfl (by decide) _ _ _ rfl (hoq.out.alloc _) ⟨wr.heap.size, 0, none⟩ 1 1 [.int .i64 k] rfl rfl (cell_one_new _ _ _) ?c2 ?c3 ?c4 ?c5 ?_)
                  case c2 => simp [Value.oneCell']
                  case c3 => unfold maxLen; omega
                  case c4 => omega
                  case c5 => simp; omega
                  case _ =>
                    intro v1 w5 h1 hg1 _
                    obtain ⟨ho1, hb5⟩ := hoq.snoc hbq (Nat.le_refl _) h1 hg1
                    clear h1 hg1
                    go_wp2
                    go_roundw
                    case rel => exact ⟨k + 1, by omega, by go_num, by rw [HX.out]; exact ho1, hb5⟩
                    case measure => simp [intOf]; omega
                · have HX := hid (HS.out.trans (by rw [if_neg (fun hh => (HLE.out.1 hh).elim hb1' hb2'), List.append_nil]))
                  go_wp2
                  go_quiet ((go_at_call 29; exact Calls.quiet_of_same ((slifeOf_any _ _ _ (by omega) (by omega) Hs.out).mono fun _ _ ⟨he, hw⟩ => ⟨by rw [he, EV.out], hw.symm⟩)))
                  go_wp2
                  go_roundw
                  case rel => exact ⟨k + 1, by omega, by go_num, by rw [HX.out]; exact ho, below_drewN hb _⟩
                  case measure => simp [intOf]; omega
            · have hi : ¬ (k : Int) < (l.length : Int) := by omega
              have hke : k = l.length := by omega
              have HE := hid (show endedTo l now life rest k = ended l now life rest by rw [E.out, hke])
              rw [HE.out] at ho
              clear hke
              go_wp2
              go_ret
              exact ⟨_, rfl, ho, hb⟩

set_option maxHeartbeats 4000000 in
theorem iNextEnd_any (A : Option Addr) (c : Nat) (l : List Ag) (life rest : Int) (w : World) (h : Sees w w.heap.size A (strip acells l)) (hn : l.length ≤ 4194304) :
    Calls Try.prog 19 #[.slice A l.length c, .int .i64 life, .int .i64 rest] w fun e w' => e = .returned (.int .i64 (Age.next l life rest)) ∧ Below w.heap.size w w' := by
  have HN := hid hn
  clear hn
  rcases hv : agesB l with _ | _
  · have Hv := hid hv
    have E := hid (next_no (l := l) (life := life) (rest := rest) (by rw [hv]; simp))
    clear hv
    go_enter Try.func19, Try.ntmps19
    go_wp2_with fail
    refine (iValidAges_any A c l _ h HN.out).mono ?_
    rintro e w1 ⟨he, hb1⟩
    rw [Hv.out] at he
    subst he
    go_wp2
    go_ret
    exact ⟨ret_int E.out.symm, hb1⟩
  · have Hv := hid hv
    rcases hs : spanB life with _ | _
    · have Hs := hid hs
      have E := hid (next_no (l := l) (life := life) (rest := rest) (by rw [hs]; simp))
      clear hv hs
      go_enter Try.func19, Try.ntmps19
      go_wp2_with fail
      refine (iValidAges_any A c l _ h HN.out).mono ?_
      rintro e w1 ⟨he, hb1⟩
      rw [Hv.out] at he
      subst he
      go_wp2_with fail
      refine (validSpan_any life _).mono ?_
      rintro e w2 ⟨he, rfl⟩
      rw [Hs.out] at he
      subst he
      go_wp2
      go_ret
      exact ⟨ret_int E.out.symm, hb1⟩
    · have Hs := hid hs
      rcases hr : spanB rest with _ | _
      · have Hr := hid hr
        have E := hid (next_no (l := l) (life := life) (rest := rest) (by rw [hr]; simp))
        clear hv hs hr
        go_enter Try.func19, Try.ntmps19
        go_wp2_with fail
        refine (iValidAges_any A c l _ h HN.out).mono ?_
        rintro e w1 ⟨he, hb1⟩
        rw [Hv.out] at he
        subst he
        go_wp2_with fail
        refine (validSpan_any life _).mono ?_
        rintro e w2 ⟨he, rfl⟩
        rw [Hs.out] at he
        subst he
        go_wp2_with fail
        refine (validSpan_any rest _).mono ?_
        rintro e w2 ⟨he, rfl⟩
        rw [Hr.out] at he
        subst he
        go_wp2
        go_ret
        exact ⟨ret_int E.out.symm, hb1⟩
      · have Hr := hid hr
        have E := hid (next_yes hv hs hr)
        have HL := hid (agesB_iff.1 hv).1
        clear hv hs hr
        go_enter Try.func19, Try.ntmps19
        go_wp2_with fail
        refine (iValidAges_any A c l _ h HN.out).mono ?_
        rintro e w1 ⟨he, hb1⟩
        rw [Hv.out] at he
        subst he
        go_wp2_with fail
        refine (validSpan_any life _).mono ?_
        rintro e w2 ⟨he, rfl⟩
        rw [Hs.out] at he
        subst he
        go_wp2_with fail
        refine (validSpan_any rest _).mono ?_
        rintro e w2 ⟨he, rfl⟩
        rw [Hr.out] at he
        subst he
        go_wp2
        go_loopw [7, 26] (fun v i wr => ∃ k : Nat, k ≤ l.length ∧ i = .int .i64 k ∧ v = .int .i64 (nextTo l life rest k) ∧ Below w.heap.size w wr) (fun _ i _ => l.length - (intOf i).toNat)
        case atStart => exact ⟨0, Nat.zero_le _, rfl, rfl, hb1⟩
        case round =>
          obtain ⟨k, hk, rfl, rfl, hb⟩ := hrel
          have hl6 := HL.out
          by_cases hlt : k < l.length
          · have hi : (k : Int) < (l.length : Int) := by omega
            obtain ⟨b, o, rfl, hbl, e0, e1⟩ := (h.below hb).age hlt
            have HS : Hid (nextTo l life rest (k + 1) = if nextTo l life rest k = -1 ∨ endAt l k life rest < nextTo l life rest k then endAt l k life rest else nextTo l life rest k) := hid rfl
            rw [endAt_eq hlt] at HS
            have hnb := nextTo_bounds Hv.out Hs.out Hr.out k hk
            have HO := hid (ages_at Hv.out hlt)
            have hvb := endV_bounds (n := (k : Int)) HO.out Hs.out Hr.out
            have HO' := HO
            obtain ⟨x, hx⟩ : ∃ x, x = l[k] := ⟨_, rfl⟩
            rw [← hx] at e0 e1 HS HO hvb
            clear hx HO'
            obtain ⟨N, hN⟩ : ∃ N, N = nextTo l life rest k := ⟨_, rfl⟩
            rw [← hN] at HS hnb ⊢
            clear hN
            have hz := hb.size
            have hN1 : -1 ≤ N ∧ N ≤ 2000 ∧ N ≠ 0 := by omega
            obtain ⟨hN1, hN2, hN3⟩ := hN1
            have hN4 : N < 0 ↔ N = -1 := by omega
            have HN4 := hid hN4
            clear hnb hN4
            have hbw : b < wr.heap.size := by omega
            obtain ⟨V, hV⟩ : ∃ V, V = endV (k : Int) x life rest := ⟨_, rfl⟩
            have EV : Hid (endV (k : Int) x life rest = V) := hid hV.symm
            rw [← hV] at HS hvb
            clear hV
            rcases hN0 : (N == -1) with _ | _
            · by_cases hVN : V < N
              · have HX := hid (HS.out.trans (if_pos (.inr hVN)))
                go_wp2_with fail
                refine (endOf_any (k : Int) x life rest _ (by omega) (by omega) HO.out Hs.out Hr.out).mono ?_
                rintro e w4 ⟨he, hb4⟩
                rw [EV.out] at he
                subst he
                have hbq := (hb.alloc hz _).trans (hb4.mono (hb.alloc hz _).size)
                clear hb hb4
                go_wp2
                go_roundw
                case rel => exact ⟨k + 1, by omega, by go_num, by rw [HX.out], hbq⟩
                case measure => simp [intOf]; omega
              · have HX := hid (HS.out.trans (if_neg (fun hh => hh.elim (fun a => absurd a (by simpa using hN0)) hVN)))
                go_wp2_with fail
                refine (endOf_any (k : Int) x life rest _ (by omega) (by omega) HO.out Hs.out Hr.out).mono ?_
                rintro e w4 ⟨he, hb4⟩
                rw [EV.out] at he
                subst he
                have hbq := (hb.alloc hz _).trans (hb4.mono (hb.alloc hz _).size)
                clear hb hb4
                go_wp2
                go_roundw
                case rel => exact ⟨k + 1, by omega, by go_num, by rw [HX.out], hbq⟩
                case measure => simp [intOf]; omega
            · have HX := hid (HS.out.trans (if_pos (.inl (by simpa using hN0))))
              go_wp2_with fail
              refine (endOf_any (k : Int) x life rest _ (by omega) (by omega) HO.out Hs.out Hr.out).mono ?_
              rintro e w4 ⟨he, hb4⟩
              rw [EV.out] at he
              subst he
              have hbq := (hb.alloc hz _).trans (hb4.mono (hb.alloc hz _).size)
              clear hb hb4
              go_wp2
              go_roundw
              case rel => exact ⟨k + 1, by omega, by go_num, by rw [HX.out], hbq⟩
              case measure => simp [intOf]; omega
          · have hi : ¬ (k : Int) < (l.length : Int) := by omega
            have hke : k = l.length := by omega
            have HE := hid (show nextTo l life rest k = Age.next l life rest by rw [E.out, hke])
            rw [HE.out]
            clear hke
            go_wp2
            go_ret
            exact ⟨rfl, hb⟩

end Go.Proofs.Ytlonmmkioaejmac
