/-
  What the functions answer that write a number in decimal, the program's. Condition: the number is not negative.
-/
import Derived.Test.YtehdbllpiokbnabTxtMath
import Derived.Test.YtehdbllpiokbnabBase
import Derived.Laws.Concat
import Derived.Laws.Strings2
import Derived.Handy

namespace Go.Proofs.Ytehdbllpiokbnab
open Go.RowKit Txt

/-- A text as a value. -/
def tx (l : List UInt8) : Value := .string (ByteArray.mk l.toArray)
theorem digit_cut {n : Nat} (h : n < 10) : (ByteArray.mk #[48, 49, 50, 51, 52, 53, 54, 55, 56, 57]).extract n (n + 1) = ByteArray.mk (dec n).toArray := by
  rw [dec_lt h, show (#[48, 49, 50, 51, 52, 53, 54, 55, 56, 57] : Array UInt8) = ([48, 49, 50, 51, 52, 53, 54, 55, 56, 57] : List UInt8).toArray from rfl, ByteArray.extract_mk]
  congr 2
  match n, h with
  | 0, _ => rfl
  | 1, _ => rfl
  | 2, _ => rfl
  | 3, _ => rfl
  | 4, _ => rfl
  | 5, _ => rfl
  | 6, _ => rfl
  | 7, _ => rfl
  | 8, _ => rfl
  | 9, _ => rfl
set_option maxHeartbeats 1000000 in
theorem numberText_one (n : Nat) (w : World) (h : n < 10) :
    Calls Try.prog 24 #[.int .i64 (n : Int)] w fun e w' => e = .returned (tx (dec n)) ∧ w = w' := by
  have h9 : ¬ (n : Int) > 9 := by omega
  have h0 : (0 : Int) ≤ (n : Int) := by omega
  have h1 : (n : Int) ≤ (n : Int) + 1 := by omega
  have h2 : (n : Int) + 1 ≤ 10 := by omega
  have hw : IntKind.i64.wrap ((n : Int) + 1) = (n : Int) + 1 := by rw [IntKind.wrap_i64]; omega
  have ht : ((n : Int) + 1).toNat = n + 1 := by omega
  have HD := hid (digit_cut h)
  clear h
  go_enter Try.func24, Try.ntmps24
  go_wp2
  go_ret
  exact ⟨by unfold tx; rw [← HD.out]; rfl, rfl⟩
set_option maxHeartbeats 1000000 in
theorem numberText_any : ∀ (n : Nat) (w : World), n ≤ 1000000000 →
    Calls Try.prog 24 #[.int .i64 (n : Int)] w fun e w' => e = .returned (tx (dec n)) ∧ w = w' := by
  intro n
  induction n using Nat.strongRecOn with
  | ind n ih =>
  intro w hn
  by_cases hlt : n < 10
  · exact numberText_one n w hlt
  · have h9 : (n : Int) > 9 := by omega
    have hq : (n : Int).tdiv 10 = ((n / 10 : Nat) : Int) := by rw [Int.tdiv_eq_ediv_of_nonneg (by omega)]; omega
    have hr : (n : Int).tmod 10 = ((n % 10 : Nat) : Int) := by rw [Int.tmod_eq_emod_of_nonneg (by omega)]; omega
    have HD := hid (dec_ge hlt)
    have c1 := ih (n / 10) (by omega)
    have l1 := dec_len 9 (n / 10) (by omega)
    have l2 := dec_len 0 (n % 10) (by omega)
    have hq9 : n / 10 ≤ 1000000000 := by omega
    have hr9 : n % 10 < 10 := by omega
    obtain ⟨D1, hD1⟩ : ∃ D, D = dec (n / 10) := ⟨_, rfl⟩
    obtain ⟨D2, hD2⟩ : ∃ D, D = dec (n % 10) := ⟨_, rfl⟩
    have H1 := hid hD1
    have H2 := hid hD2
    rw [← hD1] at l1
    rw [← hD2] at l2
    have HDD := hid (show dec n = D1 ++ D2 by rw [HD.out, ← hD1, ← hD2])
    clear HD
    clear hD1 hD2
    have C1 := hid c1
    clear c1 ih hlt
    obtain ⟨m1, hm1⟩ : ∃ m, m = n / 10 := ⟨_, rfl⟩
    obtain ⟨m2, hm2⟩ : ∃ m, m = n % 10 := ⟨_, rfl⟩
    rw [← hm1] at hq H1 C1 hq9
    rw [← hm2] at hr H2 hr9
    have hs : ¬ D1.length + D2.length > 9223372036854775807 := by omega
    clear hm1 hm2
    go_enter Try.func24, Try.ntmps24
    go_wp2_with fail
    refine (C1.out w hq9).mono ?_
    rintro e w' ⟨he, rfl⟩
    rw [← H1.out] at he
    subst he
    go_wp2_with fail
    refine (numberText_one m2 w hr9).mono ?_
    rintro e w' ⟨he, rfl⟩
    rw [← H2.out] at he
    subst he
    unfold tx
    go_wp2
    go_ret
    exact ⟨by rw [HDD.out, ByteArray.mk_append_mk]; rfl, rfl⟩

end Go.Proofs.Ytehdbllpiokbnab
