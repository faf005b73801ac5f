/-
  What LeasedTime answers, the program's and the model's. Condition: the list lies in memory.
-/
import Derived.Test.YtahnglpadmmidaaLsF
import Derived.Test.YtahnglpadmmidaaLsE
namespace Go.Proofs.Ytahnglpadmmidaa
open Go.RowKit Lse

set_option maxHeartbeats 2000000 in
theorem iLeasedTime_any (A : Option Addr) (c : Nat) (l : List L) (q : Int) (w : World) (h : Sees w w.heap.size A (lvals l)) (hc : l.length ≤ c) (hn : l.length ≤ 4194304) :
    Calls Try.prog 22 #[.slice A l.length c, .int .i64 q] w fun e w' => e = .returned (.int .i64 (leased l q)) ∧ Below w.heap.size w w' := by
  have HN := hid hn
  clear hn
  rcases hv : validB l with _ | _
  · have E : Hid (leased l q = -1) := hid (by simp [leased, hv])
    have HV := hid hv
    clear hv
    go_enter Try.func22, Try.ntmps22
    go_wp2_with fail
    refine (iValidLeases_any A c l _ h hc HN.out).mono ?_
    rintro e w1 ⟨he, hb1⟩
    rw [HV.out] at he
    subst he
    go_wp2
    go_ret
    exact ⟨ret_int E.out.symm, hb1⟩
  · have E : Hid (leased l q = time l q) := hid (by simp [leased, hv])
    have HV := hid hv
    clear hv
    go_enter Try.func22, Try.ntmps22
    go_wp2_with fail
    refine (iValidLeases_any A c l _ h hc HN.out).mono ?_
    rintro e w1 ⟨he, hb1⟩
    rw [HV.out] at he
    subst he
    go_wp2
    go_loopw [5, 13] (fun v i wr => ∃ k : Nat, k ≤ l.length ∧ i = .int .i64 k ∧ v = .int .i64 (time (l.take k) q) ∧ Below w.heap.size w wr) (fun _ i _ => l.length - (intOf i).toNat)
    case atStart => exact ⟨0, Nat.zero_le _, rfl, by simp [time], hb1⟩
    case round =>
      obtain ⟨k, hk, rfl, rfl, hb⟩ := hrel
      have hn := HN.out
      by_cases hlt : k < l.length
      · have hi : (k : Int) < (l.length : Int) := by omega
        obtain ⟨b, o, rfl, hbl, e0, e1, e2, e3⟩ := (h.below hb).lease hlt
        have hz := hb.size
        have hbw : b < wr.heap.size := by omega
        have HS := hid (time_take hlt q)
        obtain ⟨t1, t2⟩ := time_take_bd HV.out k q
        have hok := L.ok_iff.1 (ok_of hlt HV.out)
        obtain ⟨x, hx⟩ : ∃ x, x = l[k] := ⟨_, rfl⟩
        rw [← hx] at e0 e1 e2 e3 HS hok
        clear hx
        obtain ⟨_, _, _, _, g5, g6, g7⟩ := hok
        obtain ⟨s, hs⟩ : ∃ s, s = time (l.take k) q := ⟨_, rfl⟩
        rw [← hs] at t1 t2 HS
        rw [← hs]
        clear hs
        have hw1 : IntKind.i64.wrap (x.u - x.f) = x.u - x.f := by rw [IntKind.wrap_i64]; omega
        have hw2 : IntKind.i64.wrap (s + (x.u - x.f)) = s + (x.u - x.f) := by rw [IntKind.wrap_i64]; omega
        rcases d1 : (x.o == q) with _ | _
        · have HX : Hid (time (l.take (k + 1)) q = s) := hid (by rw [HS.out, if_neg (by simpa using d1)]; omega)
          go_wp2
          go_roundw
          case rel => exact ⟨k + 1, by omega, by go_num, by rw [HX.out], hb.alloc (by omega) _⟩
          case measure => simp [intOf]; omega
        · have HX : Hid (time (l.take (k + 1)) q = s + (x.u - x.f)) := hid (by rw [HS.out, if_pos (by simpa using d1)])
          go_wp2
          go_roundw
          case rel => exact ⟨k + 1, by omega, by go_num, by rw [HX.out], hb.alloc (by omega) _⟩
          case measure => simp [intOf]; omega
      · have hi : ¬ (k : Int) < (l.length : Int) := by omega
        rw [take_whole hlt]
        go_wp2
        go_ret
        exact ⟨ret_int (by rw [E.out]), hb⟩

end Go.Proofs.Ytahnglpadmmidaa
