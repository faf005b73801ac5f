/-
  What the model's use, UseStatement, DropStatement and CountPrepares answer. Condition: the lists lie in memory.
-/
import Derived.Test.YtfophplmdljhbaaCaB
import Derived.Test.YtfophplmdljhbaaSeesF
import Derived.Test.YtfophplmdljhbaaChkC
import Derived.Deep.RegionHeld3
namespace Go.Proofs.Ytfophplmdljhbaa
open Go.RowKit Cac

theorem cache_rs {s : Cch} (h : cacheB s = true) : 0 ≤ s.r ∧ s.r ≤ 4194304 := by have := cache_room h; omega
set_option maxHeartbeats 4000000 in
theorem useM_any (s : Cch) (x : Int) (A1 : Option Addr) (c1 : Nat) (w : World) (h : SeesN w w.heap.size A1 s) (h1 : s.n.length ≤ 1000) (hr : 0 ≤ s.r ∧ s.r ≤ 4194304) :
    Calls Try.prog 39 #[.agg #[.int .i64 s.r, .slice A1 s.n.length c1], .int .i64 x] w fun e w' => ∃ B d, e = .returned (.agg #[.int .i64 (useC s x).r, .slice B (useC s x).n.length d]) ∧ OwnN w' w.heap.size B d (useC s x) ∧ Below w.heap.size w w' := by
  obtain ⟨i0, hi0, hz0, hz1, hz2⟩ := info_parts intInfo
  have H1 := hid (show s.n.length ≤ 4194304 by omega)
  have HR := hid hr
  have HLn := hid (show (wo s.n x ++ [x]).length ≤ 2000 by have := wo_len s.n x; simp; omega)
  have HW := hid (show (wo s.n x).length ≤ 4194304 by have := wo_len s.n x; omega)
  obtain ⟨R, hR⟩ : ∃ R, R = useC s x := ⟨_, rfl⟩
  have HRr := hid (show R.r = s.r by rw [hR]; rfl)
  have HRn := hid (show lastN (wo s.n x ++ [x]) s.r.toNat = R.n by rw [hR]; rfl)
  rw [← hR]
  obtain ⟨M, hM⟩ : ∃ M, M = wo s.n x := ⟨_, rfl⟩
  have EM : Hid (wo s.n x = M) := hid hM.symm
  rw [← hM] at HRn HLn HW
  clear h1 hr hR hM
  have hB1 := Below.refl w.heap.size w
  have hB2 := hB1.alloc hB1.size (.cells #[.int .i64 s.r, .slice A1 s.n.length c1] 37)
  clear hB1
  have x3 : At (w.alloc (.cells #[.int .i64 s.r, .slice A1 s.n.length c1] 37)) (w.heap.size) 37 #[.int .i64 s.r, .slice A1 s.n.length c1] := At.newAt _ _ (by first | rfl | (simp; done) | (simp; omega))
  have hB4 := hB2.alloc hB2.size (.cells #[.int .i64 0, .slice none 0 0] 37)
  have x5 := x3.alloc (.cells #[.int .i64 0, .slice none 0 0] 37)
  clear hB2 x3
  have r6 : At ((w.alloc (.cells #[.int .i64 s.r, .slice A1 s.n.length c1] 37)).alloc (.cells #[.int .i64 0, .slice none 0 0] 37)) (w.heap.size + 1) 37 #[.int .i64 0, .slice none 0 0] := At.newAt _ _ (by first | rfl | (simp; done) | (simp; omega))
  go_enter Try.func39, Try.ntmps39
  obtain ⟨p0, p1, pl, pf⟩ := (⟨x5.cell 0, x5.cell 1, x5.lt, x5.frozen⟩ : _ ∧ _ ∧ _ ∧ _)
  obtain ⟨q0, q1, ql, qf⟩ := (⟨r6.cell 0, r6.cell 1, r6.lt, r6.frozen⟩ : _ ∧ _ ∧ _ ∧ _)
  have ne_pq : ¬ w.heap.size = w.heap.size + 1 := by omega
  have ne_qp : ¬ w.heap.size + 1 = w.heap.size := by omega
  go_wp2_with fail
  with_reducible refine (leave_any A1 c1 s.n x _ ((h.on hB4)).names H1.out).mono ?_
  rintro e w1 ⟨v1, rfl, ho1, hb1⟩
  rw [EM.out] at ho1
  have sz1 : w.heap.size + 2 ≤ w1.heap.size := Nat.le_trans (by first | exact Nat.le_refl _ | (simp; done) | (simp; omega)) (hb1.size)
  have ho1 := ho1.mono (show w.heap.size + 2 ≤ _ by first | (simp; done) | omega | (have := hB4.size; simp at this; omega) | (simp; omega))
  have hB7 := hB4.trans (hb1.mono hB4.size)
  have x8 := x5.below hb1 x5.lt
  have r9 := r6.below hb1 r6.lt
  clear hB4 x5 r6
  clear p0 p1 pl pf q0 q1 ql qf ne_pq ne_qp
  obtain ⟨p0, p1, pl, pf⟩ := (⟨x8.cell 0, x8.cell 1, x8.lt, x8.frozen⟩ : _ ∧ _ ∧ _ ∧ _)
  obtain ⟨q0, q1, ql, qf⟩ := (⟨r9.cell 0, r9.cell 1, r9.lt, r9.frozen⟩ : _ ∧ _ ∧ _ ∧ _)
  have ne_pq : ¬ w.heap.size = w.heap.size + 1 := by omega
  have ne_qp : ¬ w.heap.size + 1 = w.heap.size := by omega
  have hB10 := hB7.alloc hB7.size (.cells #[.int .i64 x] 3)
  have x11 := x8.alloc (.cells #[.int .i64 x] 3)
  have r12 := r9.alloc (.cells #[.int .i64 x] 3)
  clear hB7 x8 r9
  have hlow := ho1.out.lt
  go_wp2_with (at_builtin; refine wpList_append_own_at _ rfl _ _ 23 rfl (w.heap.size + 2) 3 i0 (.int .i64 0) 1 8 Try.underlying23 hi0 hz0 hz1 hz2 rfl (by decide) _ _ _ rfl (ho1.alloc4 _).out ⟨w1.heap.size, 0, none⟩ 1 1 [.int .i64 x] rfl rfl (cell_one_new _ _ _) ?c2 ?c3 ?c4 ?c5 ?_)
  case c2 => simp [Value.oneCell']
  case c3 => have := HW.out; unfold maxLen; omega
  case c4 => have := HW.out; omega
  case c5 => first | omega | (simp; omega) | (simp; done)
  case _ =>
    intro v2 w2 h1 hg1 _ _
    have sz2 : w1.heap.size + 1 ≤ w2.heap.size := Nat.le_trans (by first | exact Nat.le_refl _ | (simp; done) | (simp; omega)) (hg1.size)
    have hB13 := hB10.grown hg1 hB10.size (fun q hq => by have := hlow q hq; omega)
    have x14 := x11.grown hg1 (fun e => by have := hlow _ e.symm; omega)
    have r15 := r12.grown hg1 (fun e => by have := hlow _ e.symm; omega)
    have ho2 : Own w2 (w.heap.size + 2) v2 (M ++ [x]) := by unfold Own; rw [ints_app, List.length_append]; exact h1
    obtain ⟨A2, c2, rfl, hc2, hcc2⟩ := own_form ho2.out
    clear h1 hg1 hlow hB10 x11 r12
    clear p0 p1 pl pf q0 q1 ql qf ne_pq ne_qp
    obtain ⟨L, hL⟩ : ∃ L, L = M ++ [x] := ⟨_, rfl⟩
    rw [← hL] at ho2 HRn HLn hc2
    rw [← hL]
    clear hL
    have hs2 := Sees.of_own ho2.out
    have xd := x14.drew
    have rd := r15.drew
    have hBd := hB13.drew
    have hLd := hs2.on4 (Below.refl _ _).drew
    obtain ⟨p0, p1, pl, pf⟩ := x14.two
    clear ho2
    have hln := HLn.out
    have hrr := HR.out
    unfold maxLen at hcc2
    have HL := hid (show (L.drop (L.length - s.r.toNat)).length = L.length - (L.length - s.r.toNat) from List.length_drop)
    obtain ⟨k, hk⟩ : ∃ k : Nat, k = L.length - s.r.toNat := ⟨_, rfl⟩
    have HRd : Hid (L.drop k = R.n) := hid (by rw [hk]; exact HRn.out)
    rw [← hk] at HL
    have hmx : (if s.r < (L.length : Int) then (L.length : Int) - s.r else 0) = (k : Int) := by split <;> omega
    have hwr : IntKind.i64.wrap ((L.length : Int) - s.r) = (L.length : Int) - s.r := by rw [IntKind.wrap_i64]; omega
    have p2 : (k : Int) ≤ (c2 : Int) := by omega
    have p3 : (0 : Int) ≤ (k : Int) := by omega
    have p4 : (k : Int) ≤ (L.length : Int) := by omega
    have p5 : (L.length : Int) ≤ (c2 : Int) := by omega
    clear hk hrr
    by_cases hkc : k = c2
    · skip
      have HZ := hid (show (L.drop k).length = 0 by rw [List.length_drop]; omega)
      have hLz : Sees w2.drew w2.drew.heap.size A2 (ints (L.drop k)) := by rw [List.eq_nil_of_length_eq_zero HZ.out]; exact Sees.nil
      subst hkc
      clear p2
      go_wp2_with fail
      go_region_held3 (fun w' => w'.cell? ⟨w.heap.size, 0, none⟩ = some (.int .i64 s.r) ∧ w'.cell? ⟨w.heap.size, 1, none⟩ = some (.slice A1 s.n.length c1))
        (first | with_reducible exact ⟨p0, p1⟩ | with_reducible exact ⟨q0, q1⟩ | go_keep)
        (first
          | (go_at_call 38; (with_reducible refine (scopyInts_len HZ.out hLz (by rw [HZ.out]; omega)).mono ?_); rintro e w9 ⟨v9, rfl, ho9, hb9⟩; rw [HRd.out] at ho9; obtain ⟨A9, c9, rfl, _⟩ := ho9.form; have x9 := xd.below hb9 xd.lt; have r9 := rd.below hb9 rd.lt; have hB9 := hBd.trans (hb9.mono hBd.size); obtain ⟨q0, q1, ql, qf⟩ := x9.two; obtain ⟨t0, t1, tl, tf⟩ := r9.two)
          | fail)
      all_goals
        obtain ⟨hp2, hg2⟩ := two_put (.int .i64 s.r) (.slice A9 R.n.length c9) r9 rfl
        have hBz := below_put hB9 hg2 (Nat.le_succ _) hB9.size
        have hOz : OwnN _ w.heap.size A9 c9 R := OwnN.past (OwnN.mono (show OwnN w9 _ A9 c9 R from ho9) hBd.size) r9 (by decide) hg2
        go_wp2
        refine bodyPost_ret (v := .agg #[.int .i64 s.r, .slice A9 R.n.length c9]) (by simp [results, Try.results39, go_sem, hp2.cell]) rfl ?_
        exact ⟨A9, c9, by rw [HRr.out], hOz, hBz⟩
    · skip
      have hcn : ¬ k = c2 := hkc
      have hcn2 : ¬ c2 = k := fun e => hkc e.symm
      have hLz := sees_add hLd k
      go_wp2_with fail
      go_region_held3 (fun w' => w'.cell? ⟨w.heap.size, 0, none⟩ = some (.int .i64 s.r) ∧ w'.cell? ⟨w.heap.size, 1, none⟩ = some (.slice A1 s.n.length c1))
        (first | with_reducible exact ⟨p0, p1⟩ | with_reducible exact ⟨q0, q1⟩ | go_keep)
        (first
          | (go_at_call 38; (with_reducible refine (scopyInts_len HL.out hLz (by rw [HL.out]; omega)).mono ?_); rintro e w9 ⟨v9, rfl, ho9, hb9⟩; rw [HRd.out] at ho9; obtain ⟨A9, c9, rfl, _⟩ := ho9.form; have x9 := xd.below hb9 xd.lt; have r9 := rd.below hb9 rd.lt; have hB9 := hBd.trans (hb9.mono hBd.size); obtain ⟨q0, q1, ql, qf⟩ := x9.two; obtain ⟨t0, t1, tl, tf⟩ := r9.two)
          | fail)
      all_goals
        obtain ⟨hp2, hg2⟩ := two_put (.int .i64 s.r) (.slice A9 R.n.length c9) r9 rfl
        have hBz := below_put hB9 hg2 (Nat.le_succ _) hB9.size
        have hOz : OwnN _ w.heap.size A9 c9 R := OwnN.past (OwnN.mono (show OwnN w9 _ A9 c9 R from ho9) hBd.size) r9 (by decide) hg2
        go_wp2
        refine bodyPost_ret (v := .agg #[.int .i64 s.r, .slice A9 R.n.length c9]) (by simp [results, Try.results39, go_sem, hp2.cell]) rfl ?_
        exact ⟨A9, c9, by rw [HRr.out], hOz, hBz⟩

end Go.Proofs.Ytfophplmdljhbaa
