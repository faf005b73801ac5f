/-
  The walk of the law FnValidLeases: at every code it returns true and changes nothing that was there. Conditions: none.
-/
import Derived.Test.YtncijbmahidjbaaLsDraw
import Derived.Test.YtncijbmahidjbaaLsD
import Derived.Test.YtncijbmahidjbaaLeaseMathB
import Derived.Test.YtncijbmahidjbaaLawLs
import Derived.Test.YtncijbmahidjbaaLawFrame
import Derived.BigQuiet
import Derived.Deep.RegionHeldLaw
namespace Go.Proofs.Ytncijbmahidjbaa
open Go.RowKit Lse

set_option maxHeartbeats 20000000 in
theorem walkValidLeases (a : Option Addr) (len cap : Nat) (zs : List Int) (w : World) (hn : zs.length = len) (hc : len ≤ cap) (hcc : cap ≤ maxLen) (h : Sees w w.heap.size a (byts zs)) (hz : ∀ y ∈ zs, 0 ≤ y ∧ y ≤ 255) :
    Calls Try.prog 3 #[.slice a len cap] w fun e w' => e = .returned (.bool true) ∧ Below w.heap.size w w' := by
  have HE := hid hn
  have HC := hid hcc
  have HZ := hid hz
  clear hn hcc hz
  by_cases hbig : 1048576 < len
  · go_enter Try.func3, Try.ntmps3
    go_wp2
    go_ret
    exact ⟨rfl, Below.refl _ _⟩
  · go_enter Try.func3, Try.ntmps3
    go_wp2_with fail
    refine (drawValidLeases_any _ _ _ _ _ h HZ.out HE.out hc (by omega) HC.out).mono ?_
    rintro e w1 ⟨A, c, l, rfl, dl⟩
    obtain ⟨i0, hi0, hz0, hz1, hz2⟩ := info_parts leaseInfo
    rcases hv : validB l with _ | _
    · have HV := hid hv
      clear hv
      go_wp2_with fail
      refine (iValidLeases_any A c l _ dl.sees dl.2.2.2 (Nat.le_trans dl.2.2.1 (by decide))).mono ?_
      rintro e w2 ⟨he, hb⟩
      rw [HV.out] at he
      subst he
      replace dl := dl.below hb
      clear hb
      go_wp2_with fail
      refine (sValidLeases_any A c l _ dl.sees (Nat.le_trans dl.2.2.1 (by decide))).mono ?_
      rintro e w2 ⟨he, hb⟩
      rw [HV.out] at he
      subst he
      replace dl := dl.below hb
      clear hb
      go_wp2_with fail
      refine (sValidLeases_any A c l _ dl.sees (Nat.le_trans dl.2.2.1 (by decide))).mono ?_
      rintro e w2 ⟨he, hb⟩
      rw [HV.out] at he
      subst he
      replace dl := dl.below hb
      clear hb
      go_wp2
      go_ret
      exact ⟨rfl, dl.bel⟩
    · have HV := hid hv
      clear hv
      go_wp2_with fail
      refine (iValidLeases_any A c l _ dl.sees dl.cap dl.n4).mono ?_
      rintro e w2 ⟨he, hb⟩
      rw [HV.out] at he
      subst he
      replace dl := dl.below hb
      clear hb
      by_cases hl0 : l.length = 0
      · have hlb : ((l.length : Int) == 0) = true := by simpa using hl0
        clear hl0
        go_wp2_with fail
        refine (sValidLeases_any A c l _ dl.sees dl.n4).mono ?_
        rintro e w3 ⟨he, hb⟩
        rw [HV.out] at he
        subst he
        replace dl := dl.below hb
        go_wp2_with fail
        refine (sValidLeases_any A c l _ dl.sees dl.n4).mono ?_
        rintro e w4 ⟨he, hb⟩
        rw [HV.out] at he
        subst he
        replace dl := dl.below hb
        go_wp2
        go_ret
        exact ⟨by simp, dl.bel⟩
      · have hlb : ((l.length : Int) == 0) = false := beq_eq_false_iff_ne.2 (by omega)
        go_wp2_with fail
        refine (sValidLeases_any A c l _ dl.sees dl.n4).mono ?_
        rintro e w3 ⟨he, hb⟩
        rw [HV.out] at he
        subst he
        replace dl := dl.below hb
        clear hb
        obtain ⟨k, hk⟩ : ∃ k, k = len % l.length := ⟨_, rfl⟩
        have hkl : k < l.length := by rw [hk]; exact Nat.mod_lt _ (by omega)
        have hmod1 : (len : Int) % (l.length : Int) = (k : Int) := by rw [hk]; rfl
        have hmod2 : (len : Int).tmod (l.length : Int) = (k : Int) := by rw [Int.tmod_eq_emod_of_nonneg (by omega)]; exact hmod1
        clear hk
        have hl13 := dl.2.2.1
        have hcap := dl.2.2.2
        have hs3 := dl.sees
        obtain ⟨b, o, rfl, hbl, e0, e1, e2, e3⟩ := hs3.lease hkl
        have hsT := hs3.leases_take k
        have HL1 := hid (show (lvals (l.take k)).length = k * 4 by rw [lvals_len, List.length_take, Nat.min_eq_left (by omega)])
        have HL3 := hid (show (l.take k ++ l.drop (k + 1)).length = k + (l.length - (k + 1)) by simp; omega)
        have HX5 := hid (show [] ++ lvals (l.take k) ++ lvals (l.drop (k + 1)) = lvals (l.take k ++ l.drop (k + 1)) by rw [lvals_app]; rfl)
        have HV1 := hid (valid_sub HV.out (show (l.take k ++ l.drop (k + 1)).Sublist l by
          have h1 : (l.take k ++ l.drop (k + 1)).Sublist (l.take k ++ l.drop k) := List.Sublist.append (List.Sublist.refl _) (by rw [List.drop_eq_getElem_cons hkl]; exact List.sublist_cons_self _ _)
          rwa [List.take_append_drop] at h1))
        have hV2 := not_twice (List.getElem_mem hkl)
        obtain ⟨x, hx⟩ : ∃ x, x = l[k] := ⟨_, rfl⟩
        rw [← hx] at e0 e1 e2 e3 hV2
        clear hx
        have HV2 := hid hV2
        have HL4 := hid (show (l ++ [x]).length = l.length + 1 by simp)
        have HX8 := hid (show [] ++ lvals l ++ [.int .i64 x.c, .int .i64 x.o, .int .i64 x.f, .int .i64 x.u] = lvals (l ++ [x]) by rw [lvals_app]; rfl)
        have hkI : (k : Int) < (l.length : Int) := by omega
        have hkc : (k : Int) ≤ (c : Int) := by omega
        have hk1c : (k : Int) + 1 ≤ (l.length : Int) := by omega
        have hlc : (l.length : Int) ≤ (c : Int) := by omega
        have hwk : IntKind.i64.wrap ((k : Int) + 1) = (k : Int) + 1 := by rw [IntKind.wrap_i64]; omega
        clear hV2
        have HL2 := hid (show (lvals (l.drop (k + 1))).length = (l.length - (k + 1)) * 4 by rw [lvals_len, List.length_drop])
        by_cases hck : c = k + 1
        · have HD0 := hid (show lvals (l.drop (k + 1)) = [] by rw [List.drop_eq_nil_of_le (by omega)]; rfl)
          subst hck
          have HL5 := hid (show (l.take k ++ l.drop (k + 1)).length = k by rw [List.drop_eq_nil_of_le (by omega)]; simp; omega)
          go_wp2_with fail
          go_region_held_law (fun w' => w'.cell? ⟨b, o + k * 4, none⟩ = some (.int .i64 x.c) ∧ w'.cell? ⟨b, o + k * 4 + 1, none⟩ = some (.int .i64 x.o) ∧ w'.cell? ⟨b, o + k * 4 + 2, none⟩ = some (.int .i64 x.f) ∧ w'.cell? ⟨b, o + k * 4 + 3, none⟩ = some (.int .i64 x.u))
            (first | with_reducible exact ⟨e0, e1, e2, e3⟩ | with_reducible exact ⟨p0, p1, p2, p3⟩ | with_reducible exact ⟨q0, q1, q2, q3⟩ | with_reducible exact ⟨r0, r1, r2, r3⟩ | with_reducible exact ⟨s0, s1, s2, s3⟩ | with_reducible exact ⟨j0, j1, j2, j3⟩ | with_reducible exact ⟨m0, m1, m2, m3⟩ | go_keep)
            (first
              | (refine step_append_want _ (by rfl) _ _ 23 (by rfl) w3.heap.size 27 i0 (.agg #[.int .i64 0, .int .i64 0, .int .i64 0, .int .i64 0]) 4 32 Try.underlying23 hi0 hz0 hz1 hz2 rfl (by decide) (.slice (some ⟨w3.heap.size, 0, none⟩) 0 0) 0 [] (by rfl) (made_at 27 4 rfl (Nat.le_refl _)) ⟨b, o, none⟩ k (k + 1) (lvals (l.take k)) (by rfl) (HL1.out) (((hsT.alloc (Nat.le_refl _) _).drew).add) (lcells_one _) (by unfold maxLen; omega) (by omega) (by simp) ?_; intro v4 w4 h4 hg4; have hb4 : Below w3.heap.size w3 w4 := Below.grown (by go_grown) hg4 (by simp) (fun q hq => by injection hq with hq; exact Nat.le_of_eq hq); have p0 := ((below_cell hb4).1 b (o + k * 4) hbl).trans e0; have p1 := ((below_cell hb4).1 b (o + k * 4 + 1) hbl).trans e1; have p2 := ((below_cell hb4).1 b (o + k * 4 + 2) hbl).trans e2; have p3 := ((below_cell hb4).1 b (o + k * 4 + 3) hbl).trans e3)
              | (refine step_append_want _ (by rfl) _ _ 23 (by rfl) w3.heap.size 27 i0 (.agg #[.int .i64 0, .int .i64 0, .int .i64 0, .int .i64 0]) 4 32 Try.underlying23 hi0 hz0 hz1 hz2 rfl (by decide) v4 (0 + k) ([] ++ lvals (l.take k)) (by rfl) (h4) ⟨b, o, none⟩ 0 0 (lvals (l.drop (k + 1))) (by rfl) (by rw [HD0.out]; rfl) (by intro j u hu; rw [HD0.out] at hu; simp at hu) (lcells_one _) (by unfold maxLen; omega) (by omega) (hb4.size) ?_; intro v5 w5 h5 hg5; have hb5 : Below w3.heap.size w3 w5 := hb4.grown hg5 hb4.size (fun q hq => (h4.lt q hq).1); obtain ⟨A5, c5, hv5, hc5, _⟩ := own_form h5; subst hv5; have q0 := ((below_cell hb5).1 b (o + k * 4) hbl).trans e0; have q1 := ((below_cell hb5).1 b (o + k * 4 + 1) hbl).trans e1; have q2 := ((below_cell hb5).1 b (o + k * 4 + 2) hbl).trans e2; have q3 := ((below_cell hb5).1 b (o + k * 4 + 3) hbl).trans e3)
              | (go_at_call 11; (with_reducible refine (iValidLeases_len (l := l.take k ++ l.drop (k + 1)) HL5.out (by have hh := Sees.of_own h5; rw [HX5.out] at hh; exact hh) (by rw [HL5.out]; omega) (by rw [HL5.out]; omega)).mono ?_); rintro e w6 ⟨he, hbx⟩; rw [HV1.out] at he; subst he; have hb6 := hb5.trans (hbx.mono hb5.size); have r0 := ((below_cell hb6).1 b (o + k * 4) hbl).trans e0; have r1 := ((below_cell hb6).1 b (o + k * 4 + 1) hbl).trans e1; have r2 := ((below_cell hb6).1 b (o + k * 4 + 2) hbl).trans e2; have r3 := ((below_cell hb6).1 b (o + k * 4 + 3) hbl).trans e3)
              | (refine step_append_want _ (by rfl) _ _ 23 (by rfl) w3.heap.size 27 i0 (.agg #[.int .i64 0, .int .i64 0, .int .i64 0, .int .i64 0]) 4 32 Try.underlying23 hi0 hz0 hz1 hz2 rfl (by decide) (.slice (some ⟨w6.heap.size, 0, none⟩) 0 0) 0 [] (by rfl) (by first | exact made_at 27 4 rfl hb6.size | exact own_alloc (made_at 27 4 rfl hb6.size) _) ⟨b, o, none⟩ l.length (k + 1) (lvals l) (by rfl) (lvals_len l) (by first | exact ((hs3.below hb6).alloc hb6.size _).add | exact (((hs3.below hb6).alloc hb6.size _).alloc (by simp; have := hb6.size; omega) _).add) (lcells_one _) (by unfold maxLen; omega) (by omega) (by have := hb6.size; simp; omega) ?_; intro v7 w7 h7 hg7; have hb7 : Below w3.heap.size w3 w7 := Below.grown (by first | exact hb6.alloc hb6.size _ | exact (hb6.alloc hb6.size _).alloc (by simp; have := hb6.size; omega) _) hg7 (by simp; have := hb6.size; omega) (fun q hq => by injection hq with hq; have := hb6.size; exact Nat.le_trans this (Nat.le_of_eq hq)); have s0 := ((below_cell hb7).1 b (o + k * 4) hbl).trans e0; have s1 := ((below_cell hb7).1 b (o + k * 4 + 1) hbl).trans e1; have s2 := ((below_cell hb7).1 b (o + k * 4 + 2) hbl).trans e2; have s3 := ((below_cell hb7).1 b (o + k * 4 + 3) hbl).trans e3)
              | (refine step_append_want _ (by rfl) _ _ 23 (by rfl) w3.heap.size 27 i0 (.agg #[.int .i64 0, .int .i64 0, .int .i64 0, .int .i64 0]) 4 32 Try.underlying23 hi0 hz0 hz1 hz2 rfl (by decide) (.slice (some ⟨w6.heap.size + 1, 0, none⟩) 0 0) 0 [] (by rfl) (made_at 27 4 (by simp) (Nat.le_succ_of_le hb6.size)) ⟨b, o, none⟩ l.length (k + 1) (lvals l) (by rfl) (lvals_len l) (by first | exact ((hs3.below hb6).alloc hb6.size _).add | exact (((hs3.below hb6).alloc hb6.size _).alloc (by simp; have := hb6.size; omega) _).add) (lcells_one _) (by unfold maxLen; omega) (by omega) (by have := hb6.size; simp; omega) ?_; intro v7 w7 h7 hg7; have hb7 : Below w3.heap.size w3 w7 := Below.grown ((hb6.alloc hb6.size _).alloc (by simp; have := hb6.size; omega) _) hg7 (by simp; have := hb6.size; omega) (fun q hq => by injection hq with hq; have := hb6.size; exact Nat.le_trans (Nat.le_succ_of_le this) (Nat.le_of_eq hq)); have s0 := ((below_cell hb7).1 b (o + k * 4) hbl).trans e0; have s1 := ((below_cell hb7).1 b (o + k * 4 + 1) hbl).trans e1; have s2 := ((below_cell hb7).1 b (o + k * 4 + 2) hbl).trans e2; have s3 := ((below_cell hb7).1 b (o + k * 4 + 3) hbl).trans e3)
              | (refine step_append_want _ (by rfl) _ _ 23 (by rfl) w3.heap.size 27 i0 (.agg #[.int .i64 0, .int .i64 0, .int .i64 0, .int .i64 0]) 4 32 Try.underlying23 hi0 hz0 hz1 hz2 rfl (by decide) v7 (0 + l.length) ([] ++ lvals l) (by rfl) (own_alloc h7 _) ⟨w7.heap.size, 0, none⟩ 1 1 [.int .i64 x.c, .int .i64 x.o, .int .i64 x.f, .int .i64 x.u] (by rfl) (by rfl) (cells_new w7 _ _) (by simp [Value.oneCell']) (by unfold maxLen; omega) (by omega) (by have := hb7.size; simp; omega) ?_; intro v8 w8 h8 hg8; have hb8 : Below w3.heap.size w3 w8 := (hb7.alloc hb7.size _).grown hg8 (by have := hb7.size; simp; omega) (fun q hq => (h7.lt q hq).1); obtain ⟨A8, c8, hv8, hc8, _⟩ := own_form h8; subst hv8; have j0 := ((below_cell hb8).1 b (o + k * 4) hbl).trans e0; have j1 := ((below_cell hb8).1 b (o + k * 4 + 1) hbl).trans e1; have j2 := ((below_cell hb8).1 b (o + k * 4 + 2) hbl).trans e2; have j3 := ((below_cell hb8).1 b (o + k * 4 + 3) hbl).trans e3)
              | (refine step_append_want _ (by rfl) _ _ 23 (by rfl) w3.heap.size 27 i0 (.agg #[.int .i64 0, .int .i64 0, .int .i64 0, .int .i64 0]) 4 32 Try.underlying23 hi0 hz0 hz1 hz2 rfl (by decide) v7 (0 + l.length) ([] ++ lvals l) (by rfl) (h7) ⟨w6.heap.size + 1, 0, none⟩ 1 1 [.int .i64 x.c, .int .i64 x.o, .int .i64 x.f, .int .i64 x.u] (by rfl) (by rfl) ((At.past (g := w6.heap.size + 1) (t := 27) (cs := #[.int .i64 x.c, .int .i64 x.o, .int .i64 x.f, .int .i64 x.u]) (At.newAt 27 _ (by simp)) hg7 (by simp)).news) (by simp [Value.oneCell']) (by unfold maxLen; omega) (by omega) (hb7.size) ?_; intro v8 w8 h8 hg8; have hb8 : Below w3.heap.size w3 w8 := hb7.grown hg8 hb7.size (fun q hq => (h7.lt q hq).1); obtain ⟨A8, c8, hv8, hc8, _⟩ := own_form h8; subst hv8; have j0 := ((below_cell hb8).1 b (o + k * 4) hbl).trans e0; have j1 := ((below_cell hb8).1 b (o + k * 4 + 1) hbl).trans e1; have j2 := ((below_cell hb8).1 b (o + k * 4 + 2) hbl).trans e2; have j3 := ((below_cell hb8).1 b (o + k * 4 + 3) hbl).trans e3)
              | (refine step_append_want _ (by rfl) _ _ 23 (by rfl) w3.heap.size 27 i0 (.agg #[.int .i64 0, .int .i64 0, .int .i64 0, .int .i64 0]) 4 32 Try.underlying23 hi0 hz0 hz1 hz2 rfl (by decide) v7 (0 + l.length) ([] ++ lvals l) (by rfl) (h7) ⟨w6.heap.size, 0, none⟩ 1 1 [.int .i64 x.c, .int .i64 x.o, .int .i64 x.f, .int .i64 x.u] (by rfl) (by rfl) ((At.past (g := w6.heap.size) (t := 27) (cs := #[.int .i64 x.c, .int .i64 x.o, .int .i64 x.f, .int .i64 x.u]) ((At.newAt 27 _ rfl).alloc _) hg7 (by simp)).news) (by simp [Value.oneCell']) (by unfold maxLen; omega) (by omega) (hb7.size) ?_; intro v8 w8 h8 hg8; have hb8 : Below w3.heap.size w3 w8 := hb7.grown hg8 hb7.size (fun q hq => (h7.lt q hq).1); obtain ⟨A8, c8, hv8, hc8, _⟩ := own_form h8; subst hv8; have j0 := ((below_cell hb8).1 b (o + k * 4) hbl).trans e0; have j1 := ((below_cell hb8).1 b (o + k * 4 + 1) hbl).trans e1; have j2 := ((below_cell hb8).1 b (o + k * 4 + 2) hbl).trans e2; have j3 := ((below_cell hb8).1 b (o + k * 4 + 3) hbl).trans e3)
              | (go_at_call 11; (with_reducible refine (iValidLeases_len (l := l ++ [x]) HL4.out (by have hh := Sees.of_own h8; rw [HX8.out] at hh; exact hh) (by rw [HL4.out]; omega) (by rw [HL4.out]; omega)).mono ?_); rintro e w9 ⟨he, hby⟩; rw [HV2.out] at he; subst he; have hb9 := hb8.trans (hby.mono hb8.size); have m0 := ((below_cell hb9).1 b (o + k * 4) hbl).trans e0; have m1 := ((below_cell hb9).1 b (o + k * 4 + 1) hbl).trans e1; have m2 := ((below_cell hb9).1 b (o + k * 4 + 2) hbl).trans e2; have m3 := ((below_cell hb9).1 b (o + k * 4 + 3) hbl).trans e3)
              | fail)
          all_goals
            go_wp2
            go_ret
            exact ⟨by simp, dl.bel.trans (hb9.mono dl.bel.size)⟩

        · have hsD : Sees w3 w3.heap.size (some ⟨b, o + (k + 1) * 4, none⟩) (lvals (l.drop (k + 1))) := by
            have := hs3.drop (k := (k + 1) * 4) rfl
            rwa [lvals_strip, ← strip_drop lcells_len] at this
          go_wp2_with fail
          go_region_held_law (fun w' => w'.cell? ⟨b, o + k * 4, none⟩ = some (.int .i64 x.c) ∧ w'.cell? ⟨b, o + k * 4 + 1, none⟩ = some (.int .i64 x.o) ∧ w'.cell? ⟨b, o + k * 4 + 2, none⟩ = some (.int .i64 x.f) ∧ w'.cell? ⟨b, o + k * 4 + 3, none⟩ = some (.int .i64 x.u))
            (first | with_reducible exact ⟨e0, e1, e2, e3⟩ | with_reducible exact ⟨p0, p1, p2, p3⟩ | with_reducible exact ⟨q0, q1, q2, q3⟩ | with_reducible exact ⟨r0, r1, r2, r3⟩ | with_reducible exact ⟨s0, s1, s2, s3⟩ | with_reducible exact ⟨j0, j1, j2, j3⟩ | with_reducible exact ⟨m0, m1, m2, m3⟩ | go_keep)
            (first
              | (refine step_append_want _ (by rfl) _ _ 23 (by rfl) w3.heap.size 27 i0 (.agg #[.int .i64 0, .int .i64 0, .int .i64 0, .int .i64 0]) 4 32 Try.underlying23 hi0 hz0 hz1 hz2 rfl (by decide) (.slice (some ⟨w3.heap.size, 0, none⟩) 0 0) 0 [] (by rfl) (made_at 27 4 rfl (Nat.le_refl _)) ⟨b, o, none⟩ k c (lvals (l.take k)) (by rfl) (HL1.out) (((hsT.alloc (Nat.le_refl _) _).drew).add) (lcells_one _) (by unfold maxLen; omega) (by omega) (by simp) ?_; intro v4 w4 h4 hg4; have hb4 : Below w3.heap.size w3 w4 := Below.grown (by go_grown) hg4 (by simp) (fun q hq => by injection hq with hq; exact Nat.le_of_eq hq); have p0 := ((below_cell hb4).1 b (o + k * 4) hbl).trans e0; have p1 := ((below_cell hb4).1 b (o + k * 4 + 1) hbl).trans e1; have p2 := ((below_cell hb4).1 b (o + k * 4 + 2) hbl).trans e2; have p3 := ((below_cell hb4).1 b (o + k * 4 + 3) hbl).trans e3)
              | (refine step_append_want _ (by rfl) _ _ 23 (by rfl) w3.heap.size 27 i0 (.agg #[.int .i64 0, .int .i64 0, .int .i64 0, .int .i64 0]) 4 32 Try.underlying23 hi0 hz0 hz1 hz2 rfl (by decide) v4 (0 + k) ([] ++ lvals (l.take k)) (by rfl) (h4) ⟨b, o + (k + 1) * 4, none⟩ (l.length - (k + 1)) (c - (k + 1)) (lvals (l.drop (k + 1))) (by rfl) (HL2.out) ((hsD.below hb4).add) (lcells_one _) (by unfold maxLen; omega) (by omega) (hb4.size) ?_; intro v5 w5 h5 hg5; have hb5 : Below w3.heap.size w3 w5 := hb4.grown hg5 hb4.size (fun q hq => (h4.lt q hq).1); obtain ⟨A5, c5, hv5, hc5, _⟩ := own_form h5; subst hv5; have q0 := ((below_cell hb5).1 b (o + k * 4) hbl).trans e0; have q1 := ((below_cell hb5).1 b (o + k * 4 + 1) hbl).trans e1; have q2 := ((below_cell hb5).1 b (o + k * 4 + 2) hbl).trans e2; have q3 := ((below_cell hb5).1 b (o + k * 4 + 3) hbl).trans e3)
              | (go_at_call 11; (with_reducible refine (iValidLeases_len (l := l.take k ++ l.drop (k + 1)) HL3.out (by have hh := Sees.of_own h5; rw [HX5.out] at hh; exact hh) (by rw [HL3.out]; omega) (by rw [HL3.out]; omega)).mono ?_); rintro e w6 ⟨he, hbx⟩; rw [HV1.out] at he; subst he; have hb6 := hb5.trans (hbx.mono hb5.size); have r0 := ((below_cell hb6).1 b (o + k * 4) hbl).trans e0; have r1 := ((below_cell hb6).1 b (o + k * 4 + 1) hbl).trans e1; have r2 := ((below_cell hb6).1 b (o + k * 4 + 2) hbl).trans e2; have r3 := ((below_cell hb6).1 b (o + k * 4 + 3) hbl).trans e3)
              | (refine step_append_want _ (by rfl) _ _ 23 (by rfl) w3.heap.size 27 i0 (.agg #[.int .i64 0, .int .i64 0, .int .i64 0, .int .i64 0]) 4 32 Try.underlying23 hi0 hz0 hz1 hz2 rfl (by decide) (.slice (some ⟨w6.heap.size, 0, none⟩) 0 0) 0 [] (by rfl) (by first | exact made_at 27 4 rfl hb6.size | exact own_alloc (made_at 27 4 rfl hb6.size) _) ⟨b, o, none⟩ l.length c (lvals l) (by rfl) (lvals_len l) (by first | exact ((hs3.below hb6).alloc hb6.size _).add | exact (((hs3.below hb6).alloc hb6.size _).alloc (by simp; have := hb6.size; omega) _).add) (lcells_one _) (by unfold maxLen; omega) (by omega) (by have := hb6.size; simp; omega) ?_; intro v7 w7 h7 hg7; have hb7 : Below w3.heap.size w3 w7 := Below.grown (by first | exact hb6.alloc hb6.size _ | exact (hb6.alloc hb6.size _).alloc (by simp; have := hb6.size; omega) _) hg7 (by simp; have := hb6.size; omega) (fun q hq => by injection hq with hq; have := hb6.size; exact Nat.le_trans this (Nat.le_of_eq hq)); have s0 := ((below_cell hb7).1 b (o + k * 4) hbl).trans e0; have s1 := ((below_cell hb7).1 b (o + k * 4 + 1) hbl).trans e1; have s2 := ((below_cell hb7).1 b (o + k * 4 + 2) hbl).trans e2; have s3 := ((below_cell hb7).1 b (o + k * 4 + 3) hbl).trans e3)
              | (refine step_append_want _ (by rfl) _ _ 23 (by rfl) w3.heap.size 27 i0 (.agg #[.int .i64 0, .int .i64 0, .int .i64 0, .int .i64 0]) 4 32 Try.underlying23 hi0 hz0 hz1 hz2 rfl (by decide) (.slice (some ⟨w6.heap.size + 1, 0, none⟩) 0 0) 0 [] (by rfl) (made_at 27 4 (by simp) (Nat.le_succ_of_le hb6.size)) ⟨b, o, none⟩ l.length c (lvals l) (by rfl) (lvals_len l) (by first | exact ((hs3.below hb6).alloc hb6.size _).add | exact (((hs3.below hb6).alloc hb6.size _).alloc (by simp; have := hb6.size; omega) _).add) (lcells_one _) (by unfold maxLen; omega) (by omega) (by have := hb6.size; simp; omega) ?_; intro v7 w7 h7 hg7; have hb7 : Below w3.heap.size w3 w7 := Below.grown ((hb6.alloc hb6.size _).alloc (by simp; have := hb6.size; omega) _) hg7 (by simp; have := hb6.size; omega) (fun q hq => by injection hq with hq; have := hb6.size; exact Nat.le_trans (Nat.le_succ_of_le this) (Nat.le_of_eq hq)); have s0 := ((below_cell hb7).1 b (o + k * 4) hbl).trans e0; have s1 := ((below_cell hb7).1 b (o + k * 4 + 1) hbl).trans e1; have s2 := ((below_cell hb7).1 b (o + k * 4 + 2) hbl).trans e2; have s3 := ((below_cell hb7).1 b (o + k * 4 + 3) hbl).trans e3)
              | (refine step_append_want _ (by rfl) _ _ 23 (by rfl) w3.heap.size 27 i0 (.agg #[.int .i64 0, .int .i64 0, .int .i64 0, .int .i64 0]) 4 32 Try.underlying23 hi0 hz0 hz1 hz2 rfl (by decide) v7 (0 + l.length) ([] ++ lvals l) (by rfl) (own_alloc h7 _) ⟨w7.heap.size, 0, none⟩ 1 1 [.int .i64 x.c, .int .i64 x.o, .int .i64 x.f, .int .i64 x.u] (by rfl) (by rfl) (cells_new w7 _ _) (by simp [Value.oneCell']) (by unfold maxLen; omega) (by omega) (by have := hb7.size; simp; omega) ?_; intro v8 w8 h8 hg8; have hb8 : Below w3.heap.size w3 w8 := (hb7.alloc hb7.size _).grown hg8 (by have := hb7.size; simp; omega) (fun q hq => (h7.lt q hq).1); obtain ⟨A8, c8, hv8, hc8, _⟩ := own_form h8; subst hv8; have j0 := ((below_cell hb8).1 b (o + k * 4) hbl).trans e0; have j1 := ((below_cell hb8).1 b (o + k * 4 + 1) hbl).trans e1; have j2 := ((below_cell hb8).1 b (o + k * 4 + 2) hbl).trans e2; have j3 := ((below_cell hb8).1 b (o + k * 4 + 3) hbl).trans e3)
              | (refine step_append_want _ (by rfl) _ _ 23 (by rfl) w3.heap.size 27 i0 (.agg #[.int .i64 0, .int .i64 0, .int .i64 0, .int .i64 0]) 4 32 Try.underlying23 hi0 hz0 hz1 hz2 rfl (by decide) v7 (0 + l.length) ([] ++ lvals l) (by rfl) (h7) ⟨w6.heap.size + 1, 0, none⟩ 1 1 [.int .i64 x.c, .int .i64 x.o, .int .i64 x.f, .int .i64 x.u] (by rfl) (by rfl) ((At.past (g := w6.heap.size + 1) (t := 27) (cs := #[.int .i64 x.c, .int .i64 x.o, .int .i64 x.f, .int .i64 x.u]) (At.newAt 27 _ (by simp)) hg7 (by simp)).news) (by simp [Value.oneCell']) (by unfold maxLen; omega) (by omega) (hb7.size) ?_; intro v8 w8 h8 hg8; have hb8 : Below w3.heap.size w3 w8 := hb7.grown hg8 hb7.size (fun q hq => (h7.lt q hq).1); obtain ⟨A8, c8, hv8, hc8, _⟩ := own_form h8; subst hv8; have j0 := ((below_cell hb8).1 b (o + k * 4) hbl).trans e0; have j1 := ((below_cell hb8).1 b (o + k * 4 + 1) hbl).trans e1; have j2 := ((below_cell hb8).1 b (o + k * 4 + 2) hbl).trans e2; have j3 := ((below_cell hb8).1 b (o + k * 4 + 3) hbl).trans e3)
              | (refine step_append_want _ (by rfl) _ _ 23 (by rfl) w3.heap.size 27 i0 (.agg #[.int .i64 0, .int .i64 0, .int .i64 0, .int .i64 0]) 4 32 Try.underlying23 hi0 hz0 hz1 hz2 rfl (by decide) v7 (0 + l.length) ([] ++ lvals l) (by rfl) (h7) ⟨w6.heap.size, 0, none⟩ 1 1 [.int .i64 x.c, .int .i64 x.o, .int .i64 x.f, .int .i64 x.u] (by rfl) (by rfl) ((At.past (g := w6.heap.size) (t := 27) (cs := #[.int .i64 x.c, .int .i64 x.o, .int .i64 x.f, .int .i64 x.u]) ((At.newAt 27 _ rfl).alloc _) hg7 (by simp)).news) (by simp [Value.oneCell']) (by unfold maxLen; omega) (by omega) (hb7.size) ?_; intro v8 w8 h8 hg8; have hb8 : Below w3.heap.size w3 w8 := hb7.grown hg8 hb7.size (fun q hq => (h7.lt q hq).1); obtain ⟨A8, c8, hv8, hc8, _⟩ := own_form h8; subst hv8; have j0 := ((below_cell hb8).1 b (o + k * 4) hbl).trans e0; have j1 := ((below_cell hb8).1 b (o + k * 4 + 1) hbl).trans e1; have j2 := ((below_cell hb8).1 b (o + k * 4 + 2) hbl).trans e2; have j3 := ((below_cell hb8).1 b (o + k * 4 + 3) hbl).trans e3)
              | (go_at_call 11; (with_reducible refine (iValidLeases_len (l := l ++ [x]) HL4.out (by have hh := Sees.of_own h8; rw [HX8.out] at hh; exact hh) (by rw [HL4.out]; omega) (by rw [HL4.out]; omega)).mono ?_); rintro e w9 ⟨he, hby⟩; rw [HV2.out] at he; subst he; have hb9 := hb8.trans (hby.mono hb8.size); have m0 := ((below_cell hb9).1 b (o + k * 4) hbl).trans e0; have m1 := ((below_cell hb9).1 b (o + k * 4 + 1) hbl).trans e1; have m2 := ((below_cell hb9).1 b (o + k * 4 + 2) hbl).trans e2; have m3 := ((below_cell hb9).1 b (o + k * 4 + 3) hbl).trans e3)
              | fail)
          all_goals
            go_wp2
            go_ret
            exact ⟨by simp, dl.bel.trans (hb9.mono dl.bel.size)⟩
end Go.Proofs.Ytncijbmahidjbaa
