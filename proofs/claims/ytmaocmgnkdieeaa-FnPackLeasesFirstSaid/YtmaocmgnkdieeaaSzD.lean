/-
  What the program's MostLeased answers. Condition: the list lies in memory.
-/
import Derived.Test.YtmaocmgnkdieeaaSzA
import Derived.Test.YtmaocmgnkdieeaaSzC
namespace Go.Proofs.Ytmaocmgnkdieeaa
open Go.RowKit Lse

theorem most_no {l : List L} (h : validB l = false) : mostOf l = -1 := by unfold mostOf; rw [if_neg (by simp [h])]
theorem most_yes {l : List L} (h : validB l = true) : mostOf l = (mostV l : Int) := by unfold mostOf; rw [if_pos h]
set_option maxHeartbeats 4000000 in
theorem iMostLeased_any (A : Option Addr) (c : Nat) (l : List L) (w : World) (h : Sees w w.heap.size A (lvals l)) (hc : l.length ≤ c) (hn : l.length ≤ 4194304) :
    Calls Try.prog 10 #[.slice A l.length c] w fun e w' => e = .returned (.int .i64 (mostOf l)) ∧ Below w.heap.size w w' := by
  obtain ⟨i0, hi0, hz0, hz1, hz2⟩ := info_parts leaseInfo
  have HN := hid hn; clear hn
  rcases hv : validB l with _ | _
  · have E := hid (most_no hv)
    have HV := hid hv
    clear hv
    go_enter Try.func10, Try.ntmps10
    go_wp2_with fail
    refine (iValidLeases_any A c l _ h hc HN.out).mono ?_
    rintro e w1 ⟨he, hb1⟩
    rw [HV.out] at he
    subst he
    go_wp2
    go_ret
    exact ⟨ret_int E.out.symm, hb1⟩
  · have E := hid (most_yes hv)
    have HL := hid (valid_len hv)
    have HV := hid hv
    clear hv
    go_enter Try.func10, Try.ntmps10
    go_wp2_with fail
    refine (iValidLeases_any A c l _ h hc HN.out).mono ?_
    rintro e w1 ⟨he, hb1⟩
    rw [HV.out] at he
    subst he
    go_wp2_with fail
    refine (placesByFrom_any A c l _ ((h.below hb1).more hb1.size) HL.out).mono ?_
    rintro e w2 ⟨v2, K, rfl, ho2, hK, hb2⟩
    have hb12 := hb1.trans (hb2.mono hb1.size)
    have hs := (h.below hb12).more hb12.size
    have hnl : (nums K).length = l.length := by rw [nums_len]; exact hK.1
    obtain ⟨A1, c1, rfl, hs1⟩ := ho2.form
    rw [hnl]
    have HK := hid hK
    have HE : Hid (∀ C M, Swp (leasesAt l K) l.length C M → mostV l = M) := hid fun C M => swp_end hK
    have HP := hid (leases_perm hK)
    have HS := hid (sorted_at hK)
    clear hK ho2 hnl hb1 hb2
    go_wp2
    go_loopw [3, 4, 14] (fun m v i wr => ∃ (k M : Nat) (C : List L), i = .int .i64 k ∧ m = .int .i64 M ∧ OwnL wr w2.heap.size v C ∧ Hid (Swp (leasesAt l K) k C M) ∧ Below w2.heap.size w2 wr) (fun _ _ i _ => l.length - (intOf i).toNat)
    case atStart => exact ⟨0, 0, [], rfl, rfl, OwnS.none_ _ _, hid (Swp.nil _), Below.refl _ _⟩
    case round =>
      obtain ⟨k, M, C, rfl, rfl, ho, HW, hb⟩ := hrel
      have hn12 := HL.out
      have hPl : (leasesAt l K).length = l.length := HP.out.length_eq
      have hKl : K.length = l.length := HK.out.1
      by_cases hlt : k < l.length
      · have hi : (k : Int) < (l.length : Int) := by omega
        have hk0 : (0 : Int) ≤ (k : Int) := by omega
        have hpl : ats K k < l.length := HK.out.lt hlt
        have hky : (leasesAt l K)[k]'(by omega) = l[ats K k]'hpl := by
          have e : (leasesAt l K)[k]'(by omega) = l.getD (ats K k) ⟨0, 0, 0, 0⟩ := by rw [ats_get (show k < K.length by omega)]; simp [leasesAt]
          rw [e]; simp [hpl]
        have hok := ok_of hpl HV.out
        have HSt := swp_step HS.out HW.out (by omega) (by rw [hky]; have := L.ok_iff.1 hok; omega)
        rw [hky] at HSt
        obtain ⟨b1, o1, rfl, hbl1, ek⟩ := (hs1.below hb).int (show k < (nums K).length by rw [nums_len]; omega)
        have enk : (nums K)[k]'(by rw [nums_len]; omega) = (ats K k : Int) := by rw [ats_get (show k < K.length by omega)]; simp [nums]
        rw [enk] at ek
        obtain ⟨b, o, rfl, hbl, e0, e1, e2, e3⟩ := (hs.below hb).lease hpl
        obtain ⟨p, hp⟩ : ∃ p, p = ats K k := ⟨_, rfl⟩
        obtain ⟨y, hy⟩ : ∃ y, y = l[ats K k] := ⟨_, rfl⟩
        rw [← hy] at e0 e1 e2 e3 HSt
        rw [← hp] at ek e0 e1 e2 e3 hpl
        clear hy hp enk hok hky
        have hz := hb.size
        have hbw : b < wr.heap.size := by omega
        have hbw1 : b1 < wr.heap.size := by omega
        have hp0 : (0 : Int) ≤ (p : Int) := by omega
        have hpi : (p : Int) < (l.length : Int) := by omega
        have hCk := HW.out.2.1
        have hC12 : C.length ≤ 12 := by omega
        have HKN := hid (show k < l.length from hlt)
        have HPL := hid hPl
        have HKL := hid hKl
        clear hPl hKl hCk
        obtain ⟨C', hC'⟩ : ∃ C', C' = beyond C y.f ++ [y] := ⟨_, rfl⟩
        have HCE := hid hC'
        have hlb : (beyond C y.f).length ≤ 12 := by have := beyond_len C y.f; omega
        rw [← hC'] at HSt
        have HST := hid HSt
        clear HSt hC'
        obtain ⟨A3, c3, rfl, hc3, _, hs3'⟩ := ho.form
        have hs3 : Sees wr wr.heap.size A3 (lvals C) := hs3'
        clear hs3'
        obtain ⟨w3, hw3⟩ : ∃ w3, w3 = wr.alloc (.cells #[.int .i64 y.c, .int .i64 y.o, .int .i64 y.f, .int .i64 y.u] 30) := ⟨_, rfl⟩
        have HW3 := hid hw3
        have a1 : At w3 wr.heap.size 30 #[.int .i64 y.c, .int .i64 y.o, .int .i64 y.f, .int .i64 y.u] := by rw [hw3]; exact At.new wr 30 #[.int .i64 y.c, .int .i64 y.o, .int .i64 y.f, .int .i64 y.u]
        have hb3 : Below wr.heap.size wr w3 := by rw [hw3]; exact (Below.refl _ _).alloc (Nat.le_refl _) _
        have hz3' : wr.heap.size + 1 ≤ w3.heap.size := by rw [hw3]; simp
        clear hw3
        obtain ⟨x0, x1, x2, x3⟩ := (show _ ∧ _ ∧ _ ∧ _ from ⟨a1.cell 0, a1.cell 1, a1.cell 2, a1.cell 3⟩)
        have hbd : Below wr.heap.size wr w3.drew := hb3.drew
        have ad := a1.drew
        have hbd2 : Below wr.heap.size wr (w3.alloc (.cells #[.int .i64 y.c, .int .i64 y.o, .int .i64 y.f, .int .i64 y.u] 30)).drew := (hb3.alloc hb3.size _).drew
        have ad2 : At (w3.alloc (.cells #[.int .i64 y.c, .int .i64 y.o, .int .i64 y.f, .int .i64 y.u] 30)).drew wr.heap.size 30 #[.int .i64 y.c, .int .i64 y.o, .int .i64 y.f, .int .i64 y.u] := (a1.alloc _).drew
        have hnews : At (w3.alloc (.cells #[.int .i64 y.c, .int .i64 y.o, .int .i64 y.f, .int .i64 y.u] 30)).drew w3.heap.size 30 #[.int .i64 y.c, .int .i64 y.o, .int .i64 y.f, .int .i64 y.u] := (At.new w3 30 #[.int .i64 y.c, .int .i64 y.o, .int .i64 y.f, .int .i64 y.u]).drew
        have hz2' : wr.heap.size + 1 ≤ (w3.alloc (.cells #[.int .i64 y.c, .int .i64 y.o, .int .i64 y.f, .int .i64 y.u] 30)).drew.heap.size := by show wr.heap.size + 1 ≤ (w3.alloc _).heap.size; simp; omega
        have hz1d : wr.heap.size + 1 ≤ w3.drew.heap.size := hz3'
        go_wp2_with fail
        rw [← HW3.out]
        go_region_held_law (fun w' => w'.cell? ⟨wr.heap.size, 0, none⟩ = some (.int .i64 y.c) ∧ w'.cell? ⟨wr.heap.size, 1, none⟩ = some (.int .i64 y.o) ∧ w'.cell? ⟨wr.heap.size, 2, none⟩ = some (.int .i64 y.f) ∧ w'.cell? ⟨wr.heap.size, 3, none⟩ = some (.int .i64 y.u))
          (first | with_reducible exact ⟨x0, x1, x2, x3⟩ | with_reducible exact ⟨p0, p1, p2, p3⟩ | with_reducible exact ⟨q0, q1, q2, q3⟩ | go_keep)
          (first
            | (go_at_call 20; (with_reducible refine (leasesBeyond_any A3 c3 C y.f _ (by first | with_reducible exact (hs3.below hbd).more hbd.size | with_reducible exact (hs3.below hbd2).more hbd2.size) (by omega)).mono ?_); rintro e w4 ⟨v4, rfl, ho4, hb4⟩; have a4 := At.below (by first | with_reducible exact ad | with_reducible exact ad2) hb4 (by first | with_reducible exact ad.lt | with_reducible exact ad2.lt); have hbw4 := Below.trans (by first | with_reducible exact hbd | with_reducible exact hbd2) (hb4.mono (by first | with_reducible exact hbd.size | with_reducible exact hbd2.size)); obtain ⟨p0, p1, p2, p3⟩ := (show _ ∧ _ ∧ _ ∧ _ from ⟨a4.cell 0, a4.cell 1, a4.cell 2, a4.cell 3⟩); have hz4 := hb4.size; have ho4' : OwnL w4 (wr.heap.size + 1) v4 (beyond C y.f) := ho4.mono (by first | with_reducible exact hz1d | with_reducible exact hz2'))
            | (refine step_append_own _ (by rfl) _ _ 23 (by rfl) (wr.heap.size + 1) 30 i0 (.agg #[.int .i64 0, .int .i64 0, .int .i64 0, .int .i64 0]) 4 32 Try.underlying23 hi0 hz0 hz1 hz2 rfl (by decide) v4 (beyond C y.f).length (lvals (beyond C y.f)) (by rfl) (own_alloc ho4'.out _) ⟨w4.heap.size, 0, none⟩ 1 1 [.int .i64 y.c, .int .i64 y.o, .int .i64 y.f, .int .i64 y.u] (by rfl) (by rfl) (cells_new w4 _ _) (by simp [Value.oneCell']) (by unfold maxLen; omega) (by omega) (by have := a4.lt; simp; omega) ?_; intro v5 w5 h5 hg5; have hbx : Below (wr.heap.size + 1) w4 w5 := ((Below.refl _ _).alloc (by have := a4.lt; omega) _).grown hg5 (by have := a4.lt; simp; omega) (fun q hq => (ho4'.lt q hq).1); have a5 := a4.below hbx (Nat.lt_succ_self _); obtain ⟨q0, q1, q2, q3⟩ := (show _ ∧ _ ∧ _ ∧ _ from ⟨a5.cell 0, a5.cell 1, a5.cell 2, a5.cell 3⟩))
            | (refine step_append_own _ (by rfl) _ _ 23 (by rfl) (wr.heap.size + 1) 30 i0 (.agg #[.int .i64 0, .int .i64 0, .int .i64 0, .int .i64 0]) 4 32 Try.underlying23 hi0 hz0 hz1 hz2 rfl (by decide) v4 (beyond C y.f).length (lvals (beyond C y.f)) (by rfl) ho4'.out ⟨w3.heap.size, 0, none⟩ 1 1 [.int .i64 y.c, .int .i64 y.o, .int .i64 y.f, .int .i64 y.u] (by rfl) (by rfl) ((hnews.below hb4 hnews.lt).news) (by simp [Value.oneCell']) (by unfold maxLen; omega) (by omega) (by have := a4.lt; omega) ?_; intro v5 w5 h5 hg5; have hbx : Below (wr.heap.size + 1) w4 w5 := (Below.refl _ _).grown hg5 (by have := a4.lt; omega) (fun q hq => (ho4'.lt q hq).1); have a5 := a4.below hbx (Nat.lt_succ_self _); obtain ⟨q0, q1, q2, q3⟩ := (show _ ∧ _ ∧ _ ∧ _ from ⟨a5.cell 0, a5.cell 1, a5.cell 2, a5.cell 3⟩))
            | fail)
        all_goals
          have hbn := hb.trans ((hbw4.trans (hbx.mono (by omega))).mono hz)
          have ho1 : OwnL w5 w2.heap.size v5 C' := by
            rw [HCE.out]
            refine OwnS.mono (base := wr.heap.size + 1) ?_ (by omega)
            unfold OwnS
            rw [List.length_append, strip_snoc]
            exact h5
          obtain ⟨A6, c6, hv5, _, _, _⟩ := ho1.form
          subst hv5
          have hCl : C'.length ≤ 13 := by rw [HCE.out]; simp; omega
          have HMX := hid (show max (M : Int) (C'.length : Int) = ((max M C'.length : Nat) : Int) by omega)
          clear h5 hg5 p0 p1 p2 p3 q0 q1 q2 q3 x0 x1 x2 x3
          go_wp2_with fail
          refine (wGreater_any _ _ _).mono ?_
          rintro e w6 ⟨rfl, rfl⟩
          rw [HMX.out]
          go_wp2
          go_roundw
          case rel => exact ⟨k + 1, max M C'.length, C', by go_num, rfl, ho1, HST, hbn⟩
          case measure => simp [intOf]; omega
      · have hi : ¬ (k : Int) < (l.length : Int) := by omega
        have hk := HW.out.1
        have hkk : k = l.length := by omega
        have HM := hid (HE.out C M (by rw [← hkk]; exact HW.out))
        clear hkk hk
        go_wp2
        go_ret
        exact ⟨ret_int (by rw [E.out, HM.out]), hb12.trans (hb.mono hb12.size)⟩

end Go.Proofs.Ytmaocmgnkdieeaa
