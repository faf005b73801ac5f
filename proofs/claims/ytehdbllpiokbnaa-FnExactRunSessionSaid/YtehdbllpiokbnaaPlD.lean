/-
  What the program's leastClosed, copyPool and joinWait answer. Condition: the lists lie in memory.
-/
import Derived.Test.YtehdbllpiokbnaaPlC

namespace Go.Proofs.Ytehdbllpiokbnaa
open Go.RowKit Pol

set_option maxHeartbeats 2000000 in
theorem leastClosed_any (p : Pl) (A1 A2 A3 : Option Addr) (c1 c2 c3 : Nat) (w : World) (h : SeesP w w.heap.size A1 A2 A3 p) (h1 : p.idle.length ≤ 2097152) (h2 : p.held.length ≤ 2097152) (h3 : p.mx ≤ 6) :
    Calls Try.prog 104 #[.agg #[.int .i64 p.mx, .slice A1 p.idle.length c1, .slice A2 p.held.length c2, .slice A3 p.wait.length c3]] w fun e w' => e = .returned (.int .i64 (closed p)) ∧ Below w.heap.size w w' := by
  have H1 := hid h1
  have H2 := hid h2
  clear h1 h2
  have px := At.new w 30 #[.int .i64 p.mx, .slice A1 p.idle.length c1, .slice A2 p.held.length c2, .slice A3 p.wait.length c3]
  have hb0 := (Below.refl w.heap.size w).alloc (Nat.le_refl _) (.cells #[.int .i64 p.mx, .slice A1 p.idle.length c1, .slice A2 p.held.length c2, .slice A3 p.wait.length c3] 30)
  have hs0 := h.on hb0
  obtain ⟨p0, p1, p2, p3, pl⟩ := px.pool
  go_enter Try.func104, Try.ntmps104
  go_wp2_with fail
  refine (openConns_any p A1 A2 A3 c1 c2 c3 _ hs0 H1.out H2.out).mono ?_
  rintro e w1 ⟨v1, rfl, ho1, hb1⟩
  have px1 := px.below hb1 px.lt
  have hbw := hb0.trans (hb1.mono hb0.size)
  obtain ⟨A4, c4, rfl, hs4⟩ := ho1.form
  have HO := hid (show (opens p).length ≤ 4194304 by have := H1.out; have := H2.out; simp [opens]; omega)
  have HC := hid (fun (k : Nat) (hk : (k : Int) < p.mx) (ha : ∀ j : Nat, j < k → (j : Int) ∈ opens p) (hx : (k : Int) ∉ opens p) => closed_at hk ha hx)
  have HN := hid (fun (ha : ∀ j : Nat, (j : Int) < p.mx → (j : Int) ∈ opens p) => closed_no ha)
  obtain ⟨O, hO⟩ : ∃ O, O = opens p := ⟨_, rfl⟩
  rw [← hO] at hs4 HO HC HN ⊢
  clear px p0 p1 p2 p3 pl hb0 hs0 hb1 ho1 hO
  obtain ⟨p0, p1, p2, p3, pl⟩ := px1.pool
  go_wp2
  go_loop [4] (fun i => ∃ k : Nat, i = .int .i64 k ∧ (k = 0 ∨ (k : Int) ≤ p.mx) ∧ Hid (∀ j : Nat, j < k → (j : Int) ∈ O)) (fun i => p.mx.toNat - (intOf i).toNat)
  case atStart => exact ⟨0, rfl, .inl rfl, hid (by omega)⟩
  case round =>
    obtain ⟨k, rfl, hk, HA⟩ := hrel
    have hn := HO.out
    by_cases hlt : (k : Int) < p.mx
    · by_cases hm : (k : Int) ∈ O
      · have HX := hid (show ∀ j : Nat, j < k + 1 → (j : Int) ∈ O from fun j hj => by
          rcases Nat.lt_or_ge j k with e | e
          · exact HA.out j e
          · have : j = k := by omega
            subst this; exact hm)
        have hp := Line.place_lt hm
        obtain ⟨V, hV⟩ : ∃ V, V = Line.place O k := ⟨_, rfl⟩
        have EV : Hid (Line.place O k = V) := hid hV.symm
        rw [← hV] at hp
        have hne : (V == -1) = false := by simp; omega
        clear hV hp hm
        go_wp2_with fail
        refine (placeOf_any A4 c4 O (k : Int) _ hs4 (by omega)).mono ?_
        rintro e w' ⟨he, rfl⟩
        rw [EV.out] at he
        subst he
        go_wp2
        go_round
        case rel => exact ⟨k + 1, by go_num, .inr (by omega), HX⟩
        case measure => simp [intOf]; omega
      · have HX := hid (HC.out k hlt HA.out hm)
        have EV := hid (Line.place_no hm)
        clear hm
        go_wp2_with fail
        refine (placeOf_any A4 c4 O (k : Int) _ hs4 (by omega)).mono ?_
        rintro e w' ⟨he, rfl⟩
        rw [EV.out] at he
        subst he
        go_wp2
        go_ret
        exact ⟨ret_int HX.out.symm, hbw⟩
    · have HX := hid (HN.out fun j hj => HA.out j (by omega))
      go_wp2
      go_ret
      exact ⟨ret_int HX.out.symm, hbw⟩

end Go.Proofs.Ytehdbllpiokbnaa
