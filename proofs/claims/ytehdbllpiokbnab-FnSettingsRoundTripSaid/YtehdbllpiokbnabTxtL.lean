/-
  What the program's function answers that reads a number. Condition: the text is at most 2^22 bytes long.
-/
import Derived.Test.YtehdbllpiokbnabTxtK

namespace Go.Proofs.Ytehdbllpiokbnab
open Go.RowKit Txt

theorem num_short {l : List UInt8} (h : l.length < 1) : num l = -1 := num_no fun e => by have := e.1.1; omega
theorem num_long {l : List UInt8} (h : 4 < l.length) : num l = -1 := num_no fun e => by have := e.1.2; omega
theorem head_at {l : List UInt8} (h : 0 < l.length) : l.head? = some l[0] := by cases l with | nil => simp at h | cons a b => rfl
theorem num_zero {l : List UInt8} (h : 1 < l.length) (h0 : (l[0]'(by omega)).toNat = 48) : num l = -1 := num_no fun e => e.2.2 ⟨h, by rw [head_at (by omega)]; exact congrArg some (UInt8.toNat_inj.1 h0)⟩
theorem num_sign {l : List UInt8} {k : Nat} (hk : k < l.length) (h : ¬ Dig l[k]) : num l = -1 := num_no fun e => h (e.2.1 _ (List.getElem_mem hk))
theorem dig_succ {l : List UInt8} {k : Nat} (hk : k < l.length) (h : ∀ x ∈ l.take k, Dig x) (h1 : Dig l[k]) : ∀ x ∈ l.take (k + 1), Dig x := by
  rw [List.take_succ_eq_append_getElem hk]
  intro x hx
  rw [List.mem_append, List.mem_singleton] at hx
  rcases hx with hx | rfl
  · exact h x hx
  · exact h1
theorem valN_take {l : List UInt8} {k : Nat} (hk : k < l.length) : valN (l.take (k + 1)) = valN (l.take k) * 10 + (l[k].toNat - 48) := by rw [List.take_succ_eq_append_getElem hk, valN_snoc]
theorem byte0 {S : List UInt8} (hk : 0 < S.length) : (ByteArray.mk S.toArray)[0]'(by simpa [ByteArray.size] using hk) = S[0] := rfl
set_option maxHeartbeats 4000000 in
theorem parseNumber_any (l : List UInt8) (w : World) (hl : l.length ≤ 4194304) :
    Calls Try.prog 32 #[tx l] w fun e w' => e = .returned (.int .i64 (num l)) ∧ w = w' := by
  have HLN := hid hl
  clear hl
  unfold tx
  by_cases h1 : l.length < 1
  · have E := hid (num_short h1)
    have h2 : (l.length : Int) < 1 := by omega
    clear h1
    go_enter Try.func32, Try.ntmps32
    go_wp2
    go_ret
    exact ⟨ret_int E.out.symm, rfl⟩
  by_cases h4 : 4 < l.length
  · have E := hid (num_long h4)
    have h2 : ¬ (l.length : Int) < 1 := by omega
    have h3 : (l.length : Int) > 4 := by omega
    clear h1 h4
    go_enter Try.func32, Try.ntmps32
    go_wp2
    go_ret
    exact ⟨ret_int E.out.symm, rfl⟩
  have h2 : ¬ (l.length : Int) < 1 := by omega
  have h3 : ¬ (l.length : Int) > 4 := by omega
  have hp : 0 < l.length := by omega
  have hat0 := byte0 hp
  by_cases hz : 1 < l.length ∧ (l[0].toNat = 48)
  · have E := hid (num_zero hz.1 hz.2)
    have h5 : (l.length : Int) > 1 := by omega
    have h6 : ((l[0].toNat : Int) == 48) = true := by rw [hz.2]; rfl
    clear hz h1 h4
    go_enter Try.func32, Try.ntmps32
    go_wp2
    go_ret
    exact ⟨ret_int E.out.symm, rfl⟩
  have HOK := hid (fun (hd : ∀ x ∈ l, Dig x) => (num_yes ⟨⟨by omega, by omega⟩, hd, fun e => hz ⟨e.1, by have := e.2; rw [head_at hp] at this; injection this with this; rw [this]; rfl⟩⟩ : num l = valN l))
  have hl4 : l.length ≤ 4 := by omega
  have HV := hid (fun k (hd : ∀ x ∈ l.take k, Dig x) => valN_small (l := l.take k) (by rw [List.length_take]; omega) hd)
  have hz2 : ¬ (l.length : Int) > 1 ∨ (l.length : Int) > 1 ∧ ((l[0].toNat : Int) == 48) = false := by
    by_cases h5 : 1 < l.length
    · refine .inr ⟨by omega, ?_⟩
      simp only [beq_eq_false_iff_ne, ne_eq]
      intro e
      exact hz ⟨h5, by omega⟩
    · exact .inl (by omega)
  have HSG := hid (fun k hk h => num_sign (l := l) (k := k) hk h)
  clear hz h1 h4 HLN
  rcases hz2 with h5 | ⟨h5, h6⟩
  all_goals
    go_enter Try.func32, Try.ntmps32
    go_wp2
    go_loop [3, 4] (fun v i => ∃ k : Nat, k ≤ l.length ∧ i = .int .i64 k ∧ v = .int .i64 (valN (l.take k) : Int) ∧ Hid (∀ x ∈ l.take k, Dig x)) (fun _ i => l.length - (intOf i).toNat)
    case atStart => exact ⟨0, Nat.zero_le _, rfl, rfl, hid (by simp)⟩
    case round =>
      obtain ⟨k, hk, rfl, rfl, HD⟩ := hrel
      by_cases hlt : k < l.length
      · have hi : (k : Int) < (l.length : Int) := by omega
        have hk0 : (0 : Int) ≤ (k : Int) := by omega
        have hat := byte_at hlt
        by_cases hd : Dig l[k]
        · have HD2 := hid (dig_succ hlt HD.out hd)
          have HT := hid (valN_take hlt)
          have hv := HV.out k HD.out
          have hx1 : ¬ ((l[k].toNat : Int) < 48) := by have := hd.1; omega
          have hx2 : ¬ ((l[k].toNat : Int) > 57) := by have := hd.2; omega
          have hdd := hd.2
          have hd1 := hd.1
          obtain ⟨x, hx⟩ : ∃ x : Nat, x = l[k].toNat := ⟨_, rfl⟩
          rw [← hx] at HT hdd hd1
          have hu : IntKind.u8.wrap ((l[k].toNat : Int) - 48) = ((x - 48 : Nat) : Int) := by
            rw [← hx]
            simp [IntKind.wrap, IntKind.bits, IntKind.signed]; omega
          obtain ⟨V, hV⟩ : ∃ V : Nat, V = valN (l.take k) := ⟨_, rfl⟩
          rw [← hV] at hv HT ⊢
          have hw1 : IntKind.i64.wrap ((V : Int) * 10) = (V : Int) * 10 := by rw [IntKind.wrap_i64]; omega
          have hw2 : IntKind.i64.wrap ((V : Int) * 10 + ((x - 48 : Nat) : Int)) = (V : Int) * 10 + ((x - 48 : Nat) : Int) := by rw [IntKind.wrap_i64]; omega
          have hw3 : IntKind.i64.wrap ((x - 48 : Nat) : Int) = ((x - 48 : Nat) : Int) := by rw [IntKind.wrap_i64]; omega
          clear hd hV hx
          go_wp2
          go_round
          case rel => exact ⟨k + 1, by omega, by go_num, by rw [HT.out]; simp, HD2⟩
          case measure => simp [intOf]; omega
        · have E := hid (HSG.out k hlt hd)
          have hx : (l[k].toNat : Int) < 48 ∨ ¬ (l[k].toNat : Int) < 48 ∧ (l[k].toNat : Int) > 57 := by
            unfold Dig at hd
            omega
          clear hd
          rcases hx with hx1 | ⟨hx1, hx2⟩
          all_goals
            go_wp2
            go_ret
            exact ⟨ret_int E.out.symm, rfl⟩
      · have hi : ¬ (k : Int) < (l.length : Int) := by omega
        have hd := HD.out
        rw [List.take_of_length_le (by omega)] at hd ⊢
        have E := hid (HOK.out hd)
        clear hd
        go_wp2
        go_ret
        exact ⟨ret_int E.out.symm, rfl⟩

end Go.Proofs.Ytehdbllpiokbnab
