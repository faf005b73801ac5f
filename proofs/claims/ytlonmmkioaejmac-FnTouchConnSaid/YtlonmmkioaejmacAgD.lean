/-
  What TouchConn answers, the program's and the model's. Condition: the list lies in memory.
-/
import Derived.Test.YtlonmmkioaejmacAgC
import Derived.Deep.RegionHeldLaw
namespace Go.Proofs.Ytlonmmkioaejmac
open Go.RowKit Age

abbrev OwnA (w : World) (base : Nat) (v : Value) (l : List Ag) : Prop := OwnS 31 2 acells w base v l
theorem pair_ret {v : Value} {a b : Bool} (h : a = b) : Ending.returned (.tuple #[v, .bool a]) = .returned (.tuple #[v, .bool b]) := by rw [h]
theorem ages_take_succ {l : List Ag} {k : Nat} (hk : k < l.length) : l.take (k + 1) = l.take k ++ [l[k]] := List.take_succ_eq_append_getElem hk
/-- A row that is not empty lies in a block. -/
theorem own_block {w : World} {base : Nat} {t : TypeId} {s n : Nat} {v : Value} {xs : List Value} (h : w.ownsRow base t s v n xs) (hn : 0 < n) : ∃ g c, v = .slice (some ⟨g, 0, none⟩) n c ∧ n ≤ c ∧ c ≤ maxLen := by
  rcases h.2 with ⟨_, e⟩ | ⟨g, cap, cur, e, _, _, h1, h2, _⟩
  · omega
  · exact ⟨g, cap, e, h1, h2⟩
theorem touch_at {l : List Ag} {j : Nat} (hj : j < l.length) {now : Int} (ha : agesB l = true) (ht : timeB now = true) : touchB l j now = true ∧ touchL l j now = l.set j ⟨l[j].b, max l[j].u now⟩ := by
  have h1 : touchB l j now = true := by unfold touchB; rw [ha, ht, decide_eq_true (by omega)]; rfl
  refine ⟨h1, ?_⟩
  rw [touch_yes h1, Int.toNat_natCast]
  apply List.ext_getElem?
  intro i
  rw [List.getElem?_modify, List.getElem?_set]
  by_cases hi : j = i
  · subst hi; simp [hj]
  · simp [hi]
theorem touch_none {l : List Ag} {c now : Int} (h : agesB l = false ∨ ¬ 0 ≤ c ∨ ¬ c < l.length ∨ timeB now = false) : touchB l c now = false := by
  rw [Bool.eq_false_iff]
  intro hh
  unfold touchB at hh
  simp only [Bool.and_eq_true, decide_eq_true_eq] at hh
  rcases h with h | h | h | h
  · rw [hh.1] at h; cases h
  · exact h hh.2.1.1
  · exact h hh.2.1.2
  · rw [hh.2.2] at h; cases h
/-- Storing what is there changes nothing. -/
theorem put_same {w : World} {base g n c : Nat} {ys : List Ag} (h : w.ownsRow base 31 2 (.slice (some ⟨g, 0, none⟩) n c) n (strip acells ys)) {k : Nat} (hk : k < ys.length) (u : Int) :
    (w.setCell ⟨g, k * 2 + 1, none⟩ (.int .i64 u)).ownsRow base 31 2 (.slice (some ⟨g, 0, none⟩) n c) n (strip acells (ys.set k ⟨ys[k].b, u⟩)) := by
  have h1 := row_put h (k * 2 + 1) (.int .i64 u)
  have e : (strip acells ys).set (k * 2 + 1) (.int .i64 u) = strip acells (ys.set k ⟨ys[k].b, u⟩) := by
    rw [strip_set acells_len ys k hk]
    show _ = (((strip acells ys).set (k * 2) (.int .i64 ys[k].b)).set (k * 2 + 1) (.int .i64 u))
    have h2 : (strip acells ys).set (k * 2) (.int .i64 ys[k].b) = strip acells ys := by
      apply List.ext_getElem?
      intro i
      rw [List.getElem?_set]
      split
      · rename_i hi
        subst hi
        have h3 := strip_at acells_len hk (j := 0) (by decide)
        simp only [Nat.add_zero] at h3
        rw [h3]
        have h4 : k * 2 < (strip acells ys).length := by rw [strip_len acells_len]; omega
        rw [if_pos h4]
        rfl
      · rfl
    rw [h2]
  rw [e] at h1
  exact h1

set_option maxHeartbeats 4000000 in
theorem iTouchConn_any (A : Option Addr) (c : Nat) (l : List Ag) (q now : Int) (w : World) (h : Sees w w.heap.size A (strip acells l)) (hn : l.length ≤ 4194304) :
    Calls Try.prog 15 #[.slice A l.length c, .int .i64 q, .int .i64 now] w fun e w' => ∃ v, e = .returned (.tuple #[v, .bool (touchB l q now)]) ∧ OwnA w' w.heap.size v (touchL l q now) ∧ Below w.heap.size w w' := by
  obtain ⟨i0, hi0, hz0, hz1, hz2⟩ := info_parts ageInfo
  have HN := hid hn
  clear hn
  rcases hv : agesB l with _ | _
  · have E := hid (touch_none (l := l) (c := q) (now := now) (.inl hv))
    have E2 := hid (touch_no E.out)
    have Hv := hid hv
    clear hv
    go_enter Try.func15, Try.ntmps15
    go_wp2_with fail
    refine (iValidAges_any A c l _ h HN.out).mono ?_
    rintro e w1 ⟨he, hb1⟩
    rw [Hv.out] at he
    subst he
    go_wp2
    go_ret2
    exact ⟨_, pair_ret E.out.symm, by rw [E2.out]; exact OwnS.none_ _ _, hb1⟩
  · have Hv := hid hv
    have HL := hid (agesB_iff.1 hv).1
    by_cases hq0 : 0 ≤ q
    · by_cases hql : q < l.length
      · rcases ht : timeB now with _ | _
        · have E := hid (touch_none (l := l) (c := q) (now := now) (.inr (.inr (.inr ht))))
          have E2 := hid (touch_no E.out)
          have Ht := hid ht
          clear hv ht
          go_enter Try.func15, Try.ntmps15
          go_wp2_with fail
          refine (iValidAges_any A c l _ h HN.out).mono ?_
          rintro e w1 ⟨he, hb1⟩
          rw [Hv.out] at he
          subst he
          go_wp2_with fail
          refine (validTime_any now _).mono ?_
          rintro e w2 ⟨he, rfl⟩
          rw [Ht.out] at he
          subst he
          go_wp2
          go_ret2
          exact ⟨_, pair_ret E.out.symm, by rw [E2.out]; exact OwnS.none_ _ _, hb1⟩
        · obtain ⟨j, rfl⟩ : ∃ j : Nat, q = j := ⟨q.toNat, by omega⟩
          have hj : j < l.length := by omega
          obtain ⟨t1, t2⟩ := touch_at hj hv ht
          have E := hid t1
          have E2 := hid t2
          have Ht := hid ht
          have hj1 : decide ((j : Int) < 0) = false := decide_eq_false (by omega)
          have hj2 : decide (l.length ≤ j) = false := decide_eq_false (by omega)
          clear hv ht t1 t2 hq0
          go_enter Try.func15, Try.ntmps15
          go_wp2_with fail
          refine (iValidAges_any A c l _ h HN.out).mono ?_
          rintro e w1 ⟨he, hb1⟩
          rw [Hv.out] at he
          subst he
          go_wp2_with fail
          refine (validTime_any now _).mono ?_
          rintro e w2 ⟨he, rfl⟩
          rw [Ht.out] at he
          subst he
          go_wp2
          go_loopw [8, 31] (fun v i wr => ∃ k : Nat, k ≤ l.length ∧ i = .int .i64 k ∧ OwnA wr w.heap.size v (l.take k) ∧ Below w.heap.size w wr) (fun _ i _ => l.length - (intOf i).toNat)
          case atStart => exact ⟨0, Nat.zero_le _, rfl, OwnS.none_ _ _, hb1⟩
          case round =>
            clear hb1
            obtain ⟨k, hk, rfl, ho, hb⟩ := hrel
            have hl6 := HL.out
            by_cases hlt : k < l.length
            · have hi : (k : Int) < (l.length : Int) := by omega
              obtain ⟨b, o, rfl, hbl, e0, e1⟩ := (h.below hb).age hlt
              have hz := hb.size
              have hbw : b < wr.heap.size := by omega
              have HS := hid (ages_take_succ hlt)
              have hkl : (l.take k).length ≤ 6 := by rw [List.length_take]; omega
              have HKK := hid (show (l.take k).length = k by rw [List.length_take]; omega)
              obtain ⟨y, hy⟩ : ∃ y, y = l[k] := ⟨_, rfl⟩
              rw [← hy] at e0 e1 HS
              clear hy
              go_wp2_with (at_builtin; refine wpList_append_own _ rfl _ _ 23 rfl w.heap.size 31 i0 (.agg #[.int .i64 0, .int .i64 0]) 2 16 Try.underlying23 hi0 hz0 hz1 hz2 rfl (by decide) _ _ _ rfl ((ho.alloc _).alloc _).out ⟨wr.heap.size + 1, 0, none⟩ 1 1 [.int .i64 y.b, .int .i64 y.u] rfl rfl (by simpa using cells_new (wr.alloc _) _ _) ?c2 ?c3 ?c4 ?c5 ?_)
              case c2 => simp [Value.oneCell']
              case c3 => unfold maxLen; omega
              case c4 => omega
              case c5 => simp; omega
              case _ =>
                intro v1 w3 h1 hg1 _
                have ho' := ho.alloc (.cells #[.int .i64 y.b, .int .i64 y.u] 31)
                obtain ⟨ho1, hb1⟩ := ho'.snoc (x := y) (Below.refl _ (wr.alloc (.cells #[.int .i64 y.b, .int .i64 y.u] 31))) (by simp; omega) (by rw [HKK.out]; exact h1) hg1
                rw [← HS.out] at ho1
                have hbn := (hb.alloc hz (.cells #[.int .i64 y.b, .int .i64 y.u] 31)).trans hb1
                clear h1 hg1 ho' hb1
                go_wp2
                go_roundw
                case rel => exact ⟨k + 1, by omega, by go_num, ho1, hbn⟩
                case measure => simp [intOf]; omega
            · have hi : ¬ (k : Int) < (l.length : Int) := by omega
              rw [take_whole hlt] at ho
              have hji : (j : Int) < (l.length : Int) := by omega
              obtain ⟨g, cc, rfl, hcc, _⟩ := own_block ho.out (by omega)
              obtain ⟨x0, x1⟩ := age_at ho.out hj
              have hfr := row_thaw ho.out
              have hput := put_same ho.out hj now
              obtain ⟨hg1, hg2⟩ := row_base ho.out
              have HP := hid hput
              have HE3 : Hid (¬ l[j].u < now → l.set j ⟨l[j].b, max l[j].u now⟩ = l) := hid (fun hh => by
                have : (⟨l[j].b, max l[j].u now⟩ : Ag) = l[j] := by
                  have : max l[j].u now = l[j].u := by omega
                  rw [this]
                rw [this]; simp)
              have HE4 : Hid (l[j].u < now → (⟨l[j].b, max l[j].u now⟩ : Ag) = ⟨l[j].b, now⟩) := hid (fun hh => by
                have : max l[j].u now = now := by omega
                rw [this])
              obtain ⟨u, hu⟩ : ∃ u, u = l[j].u := ⟨_, rfl⟩
              rw [← hu] at x1
              have HU := hid hu
              clear hput hu
              by_cases hlu : u < now
              · go_wp2
                go_ret2
                refine ⟨_, pair_ret E.out.symm, ?_, hb.setCell hg1 _⟩
                rw [E2.out, HE4.out (by rw [← HU.out]; exact hlu)]
                show World.ownsRow _ _ _ _ _ _ _
                rw [List.length_set]
                exact HP.out
              · go_wp2
                go_ret2
                refine ⟨_, pair_ret E.out.symm, ?_, hb⟩
                rw [E2.out, HE3.out (by rw [← HU.out]; exact hlu)]
                exact ho
      · have E := hid (touch_none (l := l) (c := q) (now := now) (.inr (.inr (.inl hql))))
        have E2 := hid (touch_no E.out)
        clear hv
        go_enter Try.func15, Try.ntmps15
        go_wp2_with fail
        refine (iValidAges_any A c l _ h HN.out).mono ?_
        rintro e w1 ⟨he, hb1⟩
        rw [Hv.out] at he
        subst he
        go_wp2
        go_ret2
        exact ⟨_, pair_ret E.out.symm, by rw [E2.out]; exact OwnS.none_ _ _, hb1⟩
    · have E := hid (touch_none (l := l) (c := q) (now := now) (.inr (.inl hq0)))
      have E2 := hid (touch_no E.out)
      clear hv
      go_enter Try.func15, Try.ntmps15
      go_wp2_with fail
      refine (iValidAges_any A c l _ h HN.out).mono ?_
      rintro e w1 ⟨he, hb1⟩
      rw [Hv.out] at he
      subst he
      go_wp2
      go_ret2
      exact ⟨_, pair_ret E.out.symm, by rw [E2.out]; exact OwnS.none_ _ _, hb1⟩

set_option maxHeartbeats 4000000 in
theorem sTouchConn_any (A : Option Addr) (c : Nat) (l : List Ag) (q now : Int) (w : World) (h : Sees w w.heap.size A (strip acells l)) (hn : l.length ≤ 4194304) :
    Calls Try.prog 16 #[.slice A l.length c, .int .i64 q, .int .i64 now] w fun e w' => ∃ v, e = .returned (.tuple #[v, .bool (touchB l q now)]) ∧ OwnA w' w.heap.size v (touchL l q now) ∧ Below w.heap.size w w' := by
  obtain ⟨i0, hi0, hz0, hz1, hz2⟩ := info_parts ageInfo
  have hw1 : IntKind.i64.wrap ((l.length : Int) - 1) = (l.length : Int) - 1 := by rw [IntKind.wrap_i64]; omega
  have HN := hid hn
  clear hn
  rcases hv : agesB l with _ | _
  · have E := hid (touch_none (l := l) (c := q) (now := now) (.inl hv))
    have E2 := hid (touch_no E.out)
    have Hv := hid hv
    clear hv
    go_enter Try.func16, Try.ntmps16
    go_wp2_with fail
    refine (svalidAges_any A c l _ h HN.out).mono ?_
    rintro e w1 ⟨he, hb1⟩
    rw [Hv.out] at he
    subst he
    go_wp2
    go_ret2
    exact ⟨_, pair_ret E.out.symm, by rw [E2.out]; exact OwnS.none_ _ _, hb1⟩
  · have Hv := hid hv
    have HL := hid (agesB_iff.1 hv).1
    rcases hq : inB q 0 ((l.length : Int) - 1) with _ | _
    · have E := hid (touch_none (l := l) (c := q) (now := now) (by
        by_cases h0 : 0 ≤ q
        · refine .inr (.inr (.inl fun h1 => ?_))
          rw [Bool.eq_false_iff] at hq
          exact hq (inB_iff.2 ⟨h0, by omega⟩)
        · exact .inr (.inl h0)))
      have E2 := hid (touch_no E.out)
      have Hq := hid hq
      clear hv hq
      go_enter Try.func16, Try.ntmps16
      go_wp2_with fail
      refine (svalidAges_any A c l _ h HN.out).mono ?_
      rintro e w1 ⟨he, hb1⟩
      rw [Hv.out] at he
      subst he
      go_wp2_with fail
      refine (inRange_any q 0 ((l.length : Int) - 1) _).mono ?_
      rintro e w2 ⟨he, rfl⟩
      rw [Hq.out] at he
      subst he
      go_wp2
      go_ret2
      exact ⟨_, pair_ret E.out.symm, by rw [E2.out]; exact OwnS.none_ _ _, hb1⟩
    · have Hq := hid hq
      have hq' := inB_iff.1 hq
      rcases ht : inB now 0 1000 with _ | _
      · have E := hid (touch_none (l := l) (c := q) (now := now) (.inr (.inr (.inr ht))))
        have E2 := hid (touch_no E.out)
        have Ht := hid ht
        clear hv hq ht hq'
        go_enter Try.func16, Try.ntmps16
        go_wp2_with fail
        refine (svalidAges_any A c l _ h HN.out).mono ?_
        rintro e w1 ⟨he, hb1⟩
        rw [Hv.out] at he
        subst he
        go_wp2_with fail
        refine (inRange_any q 0 ((l.length : Int) - 1) _).mono ?_
        rintro e w2 ⟨he, rfl⟩
        rw [Hq.out] at he
        subst he
        go_wp2_with fail
        refine (inRange_any now 0 1000 _).mono ?_
        rintro e w3 ⟨he, rfl⟩
        rw [Ht.out] at he
        subst he
        go_wp2
        go_ret2
        exact ⟨_, pair_ret E.out.symm, by rw [E2.out]; exact OwnS.none_ _ _, hb1⟩
      · obtain ⟨j, rfl⟩ : ∃ j : Nat, q = j := ⟨q.toNat, by omega⟩
        have hj : j < l.length := by omega
        obtain ⟨t1, t2⟩ := touch_at hj hv (show timeB now = true from ht)
        have E := hid t1
        have E2 := hid t2
        have Ht := hid ht
        obtain ⟨ad, rfl⟩ : ∃ ad, A = some ad := by
          obtain ⟨b, o, e, _⟩ := h.age hj
          exact ⟨_, e⟩
        clear hv hq ht t1 t2 hq'
        go_enter Try.func16, Try.ntmps16
        go_wp2_with fail
        refine (svalidAges_any (some ad) c l _ h HN.out).mono ?_
        rintro e w1 ⟨he, hb1⟩
        rw [Hv.out] at he
        subst he
        go_wp2_with fail
        refine (inRange_any (j : Int) 0 ((l.length : Int) - 1) _).mono ?_
        rintro e w2 ⟨he, rfl⟩
        rw [Hq.out] at he
        subst he
        go_wp2_with fail
        refine (inRange_any now 0 1000 _).mono ?_
        rintro e w3 ⟨he, rfl⟩
        rw [Ht.out] at he
        subst he
        have hl6 := HL.out
        have hz1' := hb1.size
        have ho : OwnA (w1.alloc (.cells #[] 31)) w.heap.size (.slice (some ⟨w1.heap.size, 0, none⟩) 0 0) [] := OwnS.made w1 hb1.size
        have hs1 : Sees (w1.alloc (.cells #[] 31)) w.heap.size (some ad) (strip acells l) := (h.below hb1).alloc hb1.size _
        go_wp2_with (at_builtin; refine wpList_append_own _ rfl _ _ 23 rfl w.heap.size 31 i0 (.agg #[.int .i64 0, .int .i64 0]) 2 16 Try.underlying23 hi0 hz0 hz1 hz2 rfl (by decide) _ _ _ rfl ho.out ad l.length c (strip acells l) rfl (strip_len acells_len l) hs1.add (acells_one l) ?c3 ?c4 ?c5 ?_)
        case c3 => unfold maxLen; simp; omega
        case c4 => simp; omega
        case c5 => simp; omega
        case _ =>
          intro v1 w5 h5 hg5 _
          have ho5 : w5.ownsRow w.heap.size 31 2 v1 l.length (strip acells l) := by simpa [strip_nil] using h5
          have hb5 : Below w.heap.size w w5 := (hb1.alloc hb1.size _).grown hg5 (by simp; omega) (fun k hk => (ho.lt k hk).1)
          clear h5 hg5 ho hs1
          obtain ⟨g, cc, rfl, hcc, _⟩ := own_block ho5 (by omega)
          obtain ⟨x0, x1⟩ := age_at ho5 hj
          have hfr := row_thaw ho5
          have HP := hid (put_same ho5 hj (max l[j].u now))
          obtain ⟨hg1, hg2⟩ := row_base ho5
          have hji : (j : Int) < (l.length : Int) := by omega
          obtain ⟨u, hu⟩ : ∃ u, u = l[j].u := ⟨_, rfl⟩
          rw [← hu] at x1 HP E2
          clear hu
          rcases Int.lt_trichotomy u now with hun | hun | hun
          · have hmx : max u now = now := by omega
            rw [hmx] at HP E2
            clear hmx
            go_wp2
            go_ret2
            refine ⟨_, pair_ret E.out.symm, ?_, hb5.setCell hg1 _⟩
            rw [E2.out]
            show World.ownsRow _ _ _ _ _ _ _
            rw [List.length_set]
            exact HP.out
          · subst hun
            have hmx : max u u = u := by omega
            rw [hmx] at HP E2
            clear hmx
            go_wp2
            go_ret2
            refine ⟨_, pair_ret E.out.symm, ?_, hb5.setCell hg1 _⟩
            rw [E2.out]
            show World.ownsRow _ _ _ _ _ _ _
            rw [List.length_set]
            exact HP.out
          · have hmx : max u now = u := by omega
            rw [hmx] at HP E2
            clear hmx
            go_wp2
            go_ret2
            refine ⟨_, pair_ret E.out.symm, ?_, hb5.setCell hg1 _⟩
            rw [E2.out]
            show World.ownsRow _ _ _ _ _ _ _
            rw [List.length_set]
            exact HP.out

end Go.Proofs.Ytlonmmkioaejmac
