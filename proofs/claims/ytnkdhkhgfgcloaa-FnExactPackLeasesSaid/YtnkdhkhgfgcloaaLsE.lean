/-
  What OwnerAt answers, the program's and the model's. Condition: the list lies in memory.
-/
import Derived.Test.YtnkdhkhgfgcloaaLsC
import Derived.Test.YtnkdhkhgfgcloaaLsD
namespace Go.Proofs.Ytnkdhkhgfgcloaa
open Go.RowKit Lse

theorem own_step {l : List L} {k : Nat} (hk : k < l.length) {q t : Int} (h : ∀ x ∈ l.take k, hasAt x q t = false) (hx : hasAt l[k] q t = false) : ∀ x ∈ l.take (k + 1), hasAt x q t = false := by
  intro x hm
  rw [List.take_succ_eq_append_getElem hk] at hm
  rcases List.mem_append.1 hm with m | m
  · exact h x m
  · rw [List.mem_singleton.1 m]; exact hx
theorem ok_of {l : List L} {k : Nat} (hk : k < l.length) (hv : validB l = true) : l[k].ok = true := (validB_iff.1 hv).2.1 _ (List.getElem_mem hk)

set_option maxHeartbeats 2000000 in
theorem iOwnerAt_any (A : Option Addr) (c : Nat) (l : List L) (q t : Int) (w : World) (h : Sees w w.heap.size A (lvals l)) (hc : l.length ≤ c) (hn : l.length ≤ 4194304) :
    Calls Try.prog 46 #[.slice A l.length c, .int .i64 q, .int .i64 t] w fun e w' => e = .returned (.int .i64 (ownerAt l q t)) ∧ Below w.heap.size w w' := by
  have HN := hid hn
  clear hn
  rcases hv : validB l with _ | _
  · have E : Hid (ownerAt l q t = -1) := hid (by simp [ownerAt, hv])
    have HV := hid hv
    clear hv
    go_enter Try.func46, Try.ntmps46
    go_wp2_with fail
    refine (iValidLeases_any A c l _ h hc HN.out).mono ?_
    rintro e w1 ⟨he, hb1⟩
    rw [HV.out] at he
    subst he
    go_wp2
    go_ret
    exact ⟨ret_int E.out.symm, hb1⟩
  · have E : Hid (ownerAt l q t = first l q t) := hid (by simp [ownerAt, hv])
    have HV := hid hv
    clear hv
    go_enter Try.func46, Try.ntmps46
    go_wp2_with fail
    refine (iValidLeases_any A c l _ h hc HN.out).mono ?_
    rintro e w1 ⟨he, hb1⟩
    rw [HV.out] at he
    subst he
    go_wp2
    go_loopw [14] (fun i wr => ∃ k : Nat, k ≤ l.length ∧ i = .int .i64 k ∧ Hid (∀ x ∈ l.take k, hasAt x q t = false) ∧ Below w.heap.size w wr) (fun i _ => l.length - (intOf i).toNat)
    case atStart => exact ⟨0, Nat.zero_le _, rfl, hid (by simp), hb1⟩
    case round =>
      obtain ⟨k, hk, rfl, HF, hb⟩ := hrel
      have hn := HN.out
      by_cases hlt : k < l.length
      · have hi : (k : Int) < (l.length : Int) := by omega
        obtain ⟨b, o, rfl, hbl, e0, e1, e2, e3⟩ := (h.below hb).lease hlt
        have hz := hb.size
        have hbw : b < wr.heap.size := by omega
        have HS := hid (fun (hh : hasAt l[k] q t = false) => own_step hlt HF.out hh)
        have HT := hid (fun (hh : hasAt l[k] q t = true) => first_take hlt HF.out hh)
        obtain ⟨x, hx⟩ : ∃ x, x = l[k] := ⟨_, rfl⟩
        rw [← hx] at e0 e1 e2 e3 HS HT
        clear hx
        rcases d1 : (x.c == q) with _ | _
        · have HX := hid (HS.out (by rw [Bool.eq_false_iff, ne_eq, hasAt_iff]; rintro ⟨r1, _⟩; exact absurd r1 (by simpa using d1)))
          go_wp2
          go_roundw
          case rel => exact ⟨k + 1, by omega, by go_num, HX, hb.alloc (by omega) _⟩
          case measure => simp [intOf]; omega
        · by_cases d2 : x.f ≤ t
          · by_cases d3 : t < x.u
            · have HX := hid (HT.out (hasAt_iff.2 ⟨by simpa using d1, d2, d3⟩))
              go_wp2
              go_ret
              exact ⟨ret_int (by rw [E.out, HX.out]), hb.alloc (by omega) _⟩
            · have HX := hid (HS.out (by rw [Bool.eq_false_iff, ne_eq, hasAt_iff]; rintro ⟨_, _, r1⟩; exact absurd r1 d3))
              go_wp2
              go_roundw
              case rel => exact ⟨k + 1, by omega, by go_num, HX, hb.alloc (by omega) _⟩
              case measure => simp [intOf]; omega
          · have HX := hid (HS.out (by rw [Bool.eq_false_iff, ne_eq, hasAt_iff]; rintro ⟨_, r1, _⟩; exact absurd r1 d2))
            go_wp2
            go_roundw
            case rel => exact ⟨k + 1, by omega, by go_num, HX, hb.alloc (by omega) _⟩
            case measure => simp [intOf]; omega
      · have hi : ¬ (k : Int) < (l.length : Int) := by omega
        have HX : Hid (first l q t = -1) := hid (by have := HF.out; rw [take_whole hlt] at this; exact first_none this)
        go_wp2
        go_ret
        exact ⟨ret_int (by rw [E.out, HX.out]), hb⟩

end Go.Proofs.Ytnkdhkhgfgcloaa
