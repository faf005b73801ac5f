/-
  What the program's CountPrepares answers. Condition: the lists lie in memory.
-/
import Derived.Test.YtgliijkpjncfnabCaC
import Derived.Test.YtgliijkpjncfnabSeesF
namespace Go.Proofs.Ytgliijkpjncfnab
open Go.RowKit Cac

set_option maxHeartbeats 8000000 in
theorem iCountPrepares_any (s : Cch) (l : List Int) (A1 A2 : Option Addr) (c1 c2 : Nat) (w : World) (h : SeesN w w.heap.size A1 s) (hl : Sees w w.heap.size A2 (ints l)) (hc : s.n.length ≤ c1) (h1 : s.n.length ≤ 4194304) (h2 : l.length ≤ 4194304) :
    Calls Try.prog 23 #[.agg #[.int .i64 s.r, .slice A1 s.n.length c1], .slice A2 l.length c2] w fun e w' => e = .returned (.int .i64 (prepV s l)) ∧ Below w.heap.size w w' := by
  have H1 := hid h1
  have H2 := hid h2
  have HC := hid hc
  clear h1 h2 hc
  have px0 := At.new w 25 #[.int .i64 s.r, .slice A1 s.n.length c1]
  have hB0 := (Below.refl w.heap.size w).alloc (Nat.le_refl _) (.cells #[.int .i64 s.r, .slice A1 s.n.length c1] 25)
  have hs0 := h.on hB0
  rcases hv : cacheB s with _ | _
  · have E := hid (prepV_no (c := s) (l := l) (by simp [hv]))
    have HV := hid hv
    clear hv
    obtain ⟨p0, p1, pl, pf⟩ := px0.two
    go_enter Try.func23, Try.ntmps23
    go_wp2_with fail
    with_reducible refine (iValidCache_any s A1 c1 _ hs0 HC.out H1.out).mono ?_
    rintro e w1 ⟨he, hb1⟩
    rw [HV.out] at he
    subst he
    go_wp2
    go_ret
    exact ⟨ret_int E.out.symm, hB0.trans (hb1.mono hB0.size)⟩
  rcases hm : namesB l with _ | _
  · have E := hid (prepV_no (c := s) (l := l) (by simp [hm]))
    have HV := hid hv
    have HM := hid hm
    clear hv hm
    obtain ⟨p0, p1, pl, pf⟩ := px0.two
    go_enter Try.func23, Try.ntmps23
    go_wp2_with fail
    with_reducible refine (iValidCache_any s A1 c1 _ hs0 HC.out H1.out).mono ?_
    rintro e w1 ⟨he, hb1⟩
    rw [HV.out] at he
    subst he
    have hB1 := hB0.trans (hb1.mono hB0.size)
    go_wp2_with fail
    with_reducible refine (validNames_any A2 c2 l _ (hl.on4 hB1) H2.out).mono ?_
    rintro e w' ⟨he, rfl⟩
    rw [HM.out] at he
    subst he
    go_wp2
    go_ret
    exact ⟨ret_int E.out.symm, hB1⟩
  have E := hid (prepV_yes hv hm)
  have HV := hid hv
  have HM := hid hm
  have HN := hid (namesB_iff.1 hm)
  clear hv hm
  obtain ⟨p0, p1, pl, pf⟩ := px0.two
  go_enter Try.func23, Try.ntmps23
  go_wp2_with fail
  with_reducible refine (iValidCache_any s A1 c1 _ hs0 HC.out H1.out).mono ?_
  rintro e w1 ⟨he, hb1⟩
  rw [HV.out] at he
  subst he
  have hB1 := hB0.trans (hb1.mono hB0.size)
  have px1 := px0.below hb1 px0.lt
  clear px0 hs0 p0 p1 pl pf hB0 hb1
  go_wp2_with fail
  with_reducible refine (validNames_any A2 c2 l _ (hl.on4 hB1) H2.out).mono ?_
  rintro e w' ⟨he, rfl⟩
  rw [HM.out] at he
  subst he
  have n3 : At (w1.alloc (.cells #[.int .i64 s.r, .slice A1 s.n.length c1] 25)) w1.heap.size 25 #[.int .i64 s.r, .slice A1 s.n.length c1] := At.newAt _ _ rfl
  have hB3 := hB1.alloc hB1.size (.cells #[.int .i64 s.r, .slice A1 s.n.length c1] 25)
  have hs3 : SeesF (w1.alloc (.cells #[.int .i64 s.r, .slice A1 s.n.length c1] 25)) (fun b => b = w1.heap.size) A1 (ints s.n) := SeesF.of_sees (h.below hB3).names hB3.size (fun b hb e => by have := hB1.size; omega)
  obtain ⟨p0, p1, pl, pf⟩ := px1.two
  have hgw := hB1.size
  have hlt1 := n3.lt
  obtain ⟨g, hg⟩ : ∃ g, g = w1.heap.size := ⟨_, rfl⟩
  clear px1 hB1
  go_wp2
  simp only [← hg] at n3 hs3 hgw hlt1 hB3 ⊢
  go_loopw [5, 22] (fun v i wr => ∃ (k : Nat) (n : Int) (C : Cch) (B : Option Addr) (d : Nat), k ≤ l.length ∧ i = .int .i64 k ∧ v = .int .i64 n ∧ Hid (prep s (l.take k) = n) ∧ Hid (after s (l.take k) = C) ∧ C.n.length ≤ d ∧ At wr g 25 #[.int .i64 C.r, .slice B C.n.length d] ∧ SeesF wr (fun b => b = g) B (ints C.n) ∧ Below w.heap.size w wr) (fun _ i _ => l.length - (intOf i).toNat)
  case atStart => exact ⟨0, 0, s, A1, c1, Nat.zero_le _, rfl, rfl, hid rfl, hid rfl, HC.out, n3, hs3, hB3⟩
  case round =>
    clear n3 hs3 hB3 hlt1 p0 p1 pl pf hg
    obtain ⟨k, n, C, B, d, hk, rfl, rfl, HP, HA, hcd, px, hs, hb⟩ := hrel
    have hn := H2.out
    by_cases hlt : k < l.length
    · have hi : (k : Int) < (l.length : Int) := by omega
      obtain ⟨b, o, rfl, hbl, e0⟩ := (hl.below hb).int hlt
      have hv := after_valid (c := s) (l := l.take k) HV.out (fun x hx => HN.out.2 x (List.mem_of_mem_take hx))
      have hx := HN.out.2 _ (List.getElem_mem hlt)
      rw [HA.out] at hv
      have hu : useB C l[k] = true := useB_iff.2 ⟨hv, hx⟩
      have HP2 : Hid (prep s (l.take (k + 1)) = n + if mem C.n l[k] = true then 0 else 1) := hid (by rw [prep_succ hlt, HP.out, HA.out])
      have HA2 : Hid (after s (l.take (k + 1)) = useC C l[k]) := hid (by rw [after_succ hlt, HA.out])
      have hr := prep_range s (l.take k)
      rw [HP.out] at hr
      have hlk : (l.take k).length ≤ 16 := by have := HN.out.1; rw [List.length_take]; omega
      obtain ⟨x, hxx⟩ : ∃ x, x = l[k] := ⟨_, rfl⟩
      rw [← hxx] at e0 hu HP2 HA2
      have HUS := hid (useS_yes hu)
      have HUH := hid (hitB_yes hu)
      have HCL := hid (show C.n.length ≤ 4194304 by have := cache_len hv; omega)
      obtain ⟨D, hD⟩ : ∃ D, D = useC C x := ⟨_, rfl⟩
      rw [← hD] at HA2 HUS
      clear hxx hD hv hx hu
      obtain ⟨p0, p1, pl, pf⟩ := px.two
      have hz := hb.size
      have hnw : IntKind.i64.wrap (n + 1) = n + 1 := by rw [IntKind.wrap_i64]; omega
      rcases hm : mem C.n x with _ | _
      all_goals
        have HMM := hid hm
        rw [hm] at HP2 HUH
        clear hm
        go_wp2_with fail
        with_reducible refine (iUseStatement_any C x B d _ (SeesN.of hs.sees) hcd HCL.out).mono ?_
        rintro e w2 ⟨B2, d2, he, hO, hb2⟩
        rw [HUS.out, HUH.out] at he
        rw [HUS.out] at hO
        subst he
        have px2 := (px.below hb2 px.lt).alloc (.cells #[.int .i64 D.r, .slice B2 D.n.length d2] 25)
        have n2 : At (w2.alloc (.cells #[.int .i64 D.r, .slice B2 D.n.length d2] 25)) w2.heap.size 25 #[.int .i64 D.r, .slice B2 D.n.length d2] := At.newAt _ _ rfl
        have hb3 := (hb.trans (hb2.mono hb.size)).alloc (Nat.le_trans hz hb2.size) (.cells #[.int .i64 D.r, .slice B2 D.n.length d2] 25)
        have hO3 := hO.alloc (.cells #[.int .i64 D.r, .slice B2 D.n.length d2] 25)
        have hcd2 := hO.cap
        have hne : ¬ w2.heap.size = g := by have := hb2.size; omega
        have hne' : ¬ g = w2.heap.size := by omega
        obtain ⟨px3, g3⟩ := two_put (.int .i64 D.r) (.slice B2 D.n.length d2) px2 rfl
        have hb4 := below_put hb3 g3 (by omega) hb3.size
        have hO4 := OwnN.past hO3 px2 (by decide) g3
        have hs4 : SeesF _ (fun b => b = g) B2 (ints D.n) := SeesF.of_row hO4.own.out (fun b hb _ e => by omega)
        clear p0 p1 pl pf hO3 hO hb3
        obtain ⟨p0, p1, pl, pf⟩ := px2.two
        obtain ⟨q0, q1, ql, qf⟩ := n2.two
        clear n2 px2 hs px hb2 g3
        go_wp2
        go_roundw
        case rel => exact ⟨k + 1, _, D, B2, d2, by omega, by go_num, rfl, hid (by rw [HP2.out]; simp), HA2, hcd2, px3, hs4, hb4⟩
        case measure => simp [intOf]; omega
    · have hi : ¬ (k : Int) < (l.length : Int) := by omega
      have HX := hid (show prepV s l = n by have := HP.out; rw [take_whole hlt] at this; rw [E.out, this])
      go_wp2
      go_ret
      exact ⟨ret_int HX.out.symm, hb⟩

end Go.Proofs.Ytgliijkpjncfnab
