/-
  What the model's holder, closed and validPool answer. Condition: the lists lie in memory.
-/
import Derived.Test.YtehdbllpiokbnaaPlK

namespace Go.Proofs.Ytehdbllpiokbnaa
open Go.RowKit Pol

theorem place_map {l : List Ho} {k : Nat} (hk : k < l.length) (h : l[k].c ∉ (l.map Ho.c).take k) : Line.place (l.map Ho.c) l[k].c = k := by
  have hk' : k < (l.map Ho.c).length := by rw [List.length_map]; exact hk
  have e : (l.map Ho.c)[k] = l[k].c := List.getElem_map _
  have := Line.place_at (l := l.map Ho.c) hk' (by rw [e]; exact h)
  rwa [e] at this
theorem not_map_succ {l : List Ho} {k : Nat} {q : Int} (hk : k < l.length) (h : q ∉ (l.map Ho.c).take k) (hx : l[k].c ≠ q) : q ∉ (l.map Ho.c).take (k + 1) :=
  not_take_succ (by rw [List.length_map]; exact hk) h (by rw [List.getElem_map]; exact hx)
set_option maxHeartbeats 2000000 in
theorem sholder_any (p : Pl) (A1 A2 A3 : Option Addr) (c1 c2 c3 : Nat) (q : Int) (w : World) (h : Sees w w.heap.size A2 (strip hcells p.held)) (h2 : p.held.length ≤ 4194304) :
    Calls Try.prog 96 #[.agg #[.int .i64 p.mx, .slice A1 p.idle.length c1, .slice A2 p.held.length c2, .slice A3 p.wait.length c3], .int .i64 q] w fun e w' => e = .returned (.int .i64 (Line.place (p.held.map Ho.c) q)) ∧ Below w.heap.size w w' := by
  have H2 := hid h2
  clear h2
  have px := At.new w 30 #[.int .i64 p.mx, .slice A1 p.idle.length c1, .slice A2 p.held.length c2, .slice A3 p.wait.length c3]
  have hb := (Below.refl w.heap.size w).alloc (Nat.le_refl _) (.cells #[.int .i64 p.mx, .slice A1 p.idle.length c1, .slice A2 p.held.length c2, .slice A3 p.wait.length c3] 30)
  have hs := h.below hb
  obtain ⟨p0, p1, p2, p3, pl⟩ := px.pool
  go_enter Try.func96, Try.ntmps96
  go_wp2
  go_loop [5] (fun i => ∃ k : Nat, k ≤ p.held.length ∧ i = .int .i64 k ∧ Hid (q ∉ (p.held.map Ho.c).take k)) (fun i => p.held.length - (intOf i).toNat)
  case atStart => exact ⟨0, Nat.zero_le _, rfl, hid (by simp)⟩
  case round =>
    obtain ⟨k, hk, rfl, HA⟩ := hrel
    have hn := H2.out
    by_cases hlt : k < p.held.length
    · have hi : (k : Int) < (p.held.length : Int) := by omega
      obtain ⟨b, of, rfl, _, e0, e1⟩ := hs.hold hlt
      have HS := hid (fun hx => not_map_succ (q := q) hlt HA.out hx)
      have HM := hid (fun (hx : p.held[k].c = q) => (by subst hx; exact place_map hlt HA.out : Line.place (p.held.map Ho.c) q = k))
      obtain ⟨x, hx⟩ : ∃ x, x = p.held[k] := ⟨_, rfl⟩
      rw [← hx] at e0 e1 HS HM
      clear hx
      by_cases hq : x.c = q
      · have hqb : (x.c == q) = true := by simpa using hq
        have HX := hid (HM.out hq)
        clear hq
        go_wp2
        go_ret
        exact ⟨ret_int HX.out.symm, hb⟩
      · have hqb : (x.c == q) = false := by simpa using hq
        have HX := hid (HS.out hq)
        clear hq
        go_wp2
        go_round
        case rel => exact ⟨k + 1, by omega, by go_num, HX⟩
        case measure => simp [intOf]; omega
    · have hi : ¬ (k : Int) < (p.held.length : Int) := by omega
      have HX := hid (Line.place_no (l := p.held.map Ho.c) (by have := HA.out; rwa [take_whole (by rw [List.length_map]; exact hlt)] at this))
      go_wp2
      go_ret
      exact ⟨ret_int HX.out.symm, hb⟩

set_option maxHeartbeats 4000000 in
theorem sclosed_any (p : Pl) (A1 A2 A3 : Option Addr) (c1 c2 c3 : Nat) (w : World) (h : SeesP w w.heap.size A1 A2 A3 p) (h1 : p.idle.length ≤ 4194304) (h2 : p.held.length ≤ 4194304) (h3 : p.mx ≤ 6) :
    Calls Try.prog 102 #[.agg #[.int .i64 p.mx, .slice A1 p.idle.length c1, .slice A2 p.held.length c2, .slice A3 p.wait.length c3]] w fun e w' => e = .returned (.int .i64 (closed p)) ∧ Below w.heap.size w w' := by
  have H1 := hid h1
  have H2 := hid h2
  clear h1 h2
  have px := At.new w 30 #[.int .i64 p.mx, .slice A1 p.idle.length c1, .slice A2 p.held.length c2, .slice A3 p.wait.length c3]
  have hb0 := (Below.refl w.heap.size w).alloc (Nat.le_refl _) (.cells #[.int .i64 p.mx, .slice A1 p.idle.length c1, .slice A2 p.held.length c2, .slice A3 p.wait.length c3] 30)
  obtain ⟨p0, p1, p2, p3, pl⟩ := px.pool
  go_enter Try.func102, Try.ntmps102
  go_wp2
  go_loopw [3] (fun i wr => ∃ k : Nat, i = .int .i64 k ∧ (k = 0 ∨ (k : Int) ≤ p.mx) ∧ At wr w.heap.size 30 #[.int .i64 p.mx, .slice A1 p.idle.length c1, .slice A2 p.held.length c2, .slice A3 p.wait.length c3] ∧ Below w.heap.size w wr ∧ Hid (∀ j : Nat, j < k → (j : Int) ∈ opens p)) (fun i _ => p.mx.toNat - (intOf i).toNat)
  case atStart => exact ⟨0, rfl, .inl rfl, px, hb0, hid (by omega)⟩
  case round =>
    clear px hb0 p0 p1 p2 p3 pl
    obtain ⟨k, rfl, hk, hx, hb, HA⟩ := hrel
    obtain ⟨p0, p1, p2, p3, pl⟩ := hx.pool
    have hs := h.on hb
    by_cases hlt : (k : Int) < p.mx
    · have HC := hid (fun (hx : (k : Int) ∉ opens p) => closed_at hlt HA.out hx)
      have HG := hid (fun (hx : (k : Int) ∈ opens p) => (show ∀ j : Nat, j < k + 1 → (j : Int) ∈ opens p from fun j hj => by
        rcases Nat.lt_or_ge j k with e | e
        · exact HA.out j e
        · have : j = k := by omega
          subst this; exact hx))
      rcases hm : memB p.idle k with _ | _
      · have HM := hid hm
        have hm0 : (k : Int) ∉ p.idle := fun e => by rw [memB_iff.2 e] at hm; cases hm
        have HM0 := hid hm0
        clear hm hm0
        go_wp2_with fail
        with_reducible refine (sisIn_any A1 c1 p.idle k _ hs.idle (Nat.le_trans H1.out (by decide))).mono ?_
        rintro e w' ⟨he, rfl⟩
        rw [HM.out] at he
        subst he
        by_cases hh : (k : Int) ∈ p.held.map Ho.c
        · have HX := hid (HG.out (opens_mem.2 (.inr hh)))
          have hp := Line.place_lt hh
          obtain ⟨V, hV⟩ : ∃ V, V = Line.place (p.held.map Ho.c) k := ⟨_, rfl⟩
          have HV := hid hV.symm
          rw [← hV] at hp
          have hne : ¬ V < 0 := by omega
          clear hV hp hh
          go_wp2_with fail
          with_reducible refine (sholder_any p A1 A2 A3 c1 c2 c3 k _ hs.held H2.out).mono ?_
          rintro e w2 ⟨he, hb2⟩
          rw [HV.out] at he
          subst he
          have hx2 := hx.below hb2 hx.lt
          have hb3 := hb.trans (hb2.mono hb.size)
          clear hx hb hb2
          go_wp2
          go_roundw
          case rel => exact ⟨k + 1, by go_num, .inr (by omega), hx2, hb3, HX⟩
          case measure => simp [intOf]; omega
        · have HX := hid (HC.out (fun e => (opens_mem.1 e).elim HM0.out hh))
          have HV := hid (Line.place_no hh)
          clear hh
          go_wp2_with fail
          with_reducible refine (sholder_any p A1 A2 A3 c1 c2 c3 k _ hs.held H2.out).mono ?_
          rintro e w2 ⟨he, hb2⟩
          rw [HV.out] at he
          subst he
          have hb3 := hb.trans (hb2.mono hb.size)
          go_wp2
          go_ret
          exact ⟨ret_int HX.out.symm, hb3⟩
      · have HM := hid hm
        have HX := hid (HG.out (opens_mem.2 (.inl (memB_iff.1 hm))))
        clear hm
        go_wp2_with fail
        with_reducible refine (sisIn_any A1 c1 p.idle k _ hs.idle (Nat.le_trans H1.out (by decide))).mono ?_
        rintro e w' ⟨he, rfl⟩
        rw [HM.out] at he
        subst he
        go_wp2
        go_roundw
        case rel => exact ⟨k + 1, by go_num, .inr (by omega), hx, hb, HX⟩
        case measure => simp [intOf]; omega
    · have HX := hid (closed_no (p := p) fun j hj => HA.out j (by omega))
      go_wp2
      go_ret
      exact ⟨ret_int HX.out.symm, hb⟩

end Go.Proofs.Ytehdbllpiokbnaa
