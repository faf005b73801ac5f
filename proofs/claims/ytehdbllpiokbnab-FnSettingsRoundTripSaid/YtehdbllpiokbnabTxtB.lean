/-
  What the model's decimal answers. Condition: the number is not negative.
-/
import Derived.Test.YtehdbllpiokbnabTxtA
import Derived.Test.YtehdbllpiokbnabApp
import Derived.Laws.IdiomStrings
import Derived.Deep.RegionHeld3

namespace Go.Proofs.Ytehdbllpiokbnab
open Go.RowKit Txt

/-- A list of one byte turned into a text. -/
theorem byte_text (w : World) (b : Nat) (x : UInt8) (v : Int) (hv : v = (x.toNat : Int)) (h : w.cell? ⟨b, 0, none⟩ = some (.int .u8 v)) :
    (convert 22 9 (.slice (some ⟨b, 0, none⟩) 1 1)).run Try.prog w = .ok (tx [x]) w := by
  subst hv
  exact run_convert_bytes_back (P := Try.prog) w 22 9 5 ⟨b, 0, none⟩ 1 [x] Try.underlying22 Try.underlying5 Try.underlying9 (fun j hj => by
    have : j = 0 := by simpa using hj
    subst this
    simpa [Addr.add] using h)
theorem digit_val {n : Nat} (h : n < 10) : (UInt8.ofNat (48 + n)).toNat = 48 + n := by
  rw [UInt8.toNat_ofNat']
  exact Nat.mod_eq_of_lt (by omega)
set_option maxHeartbeats 1000000 in
theorem decimal_one (n : Nat) (w : World) (h : n < 10) :
    Calls Try.prog 49 #[.int .i64 (n : Int)] w fun e w' => e = .returned (tx (dec n)) ∧ Below w.heap.size w w' := by
  have h9 : (n : Int) < 10 := by omega
  have hw : IntKind.i64.wrap (48 + (n : Int)) = 48 + (n : Int) := by rw [IntKind.wrap_i64]; omega
  have hu : IntKind.u8.wrap (48 + (n : Int)) = 48 + (n : Int) := by simp [IntKind.wrap, IntKind.bits, IntKind.signed]; omega
  have px := At.new w 5 #[.int .u8 (48 + (n : Int))]
  have hx0 := digit_val h
  have hd := dec_lt h
  obtain ⟨X, hX⟩ : ∃ X, X = UInt8.ofNat (48 + n) := ⟨_, rfl⟩
  rw [← hX] at hx0 hd
  have hcv := byte_text _ w.heap.size X (48 + (n : Int)) (by rw [hx0]; omega) (px.cell 0)
  have HD := hid hd
  clear h px hX hx0 hd
  go_enter Try.func49, Try.ntmps49
  go_wp2
  go_ret
  exact ⟨by rw [HD.out]; rfl, (Below.refl _ _).alloc (Nat.le_refl _) _⟩
set_option maxHeartbeats 4000000 in
theorem decimal_any : ∀ (n : Nat) (w : World), n ≤ 1000000000 →
    Calls Try.prog 49 #[.int .i64 (n : Int)] w fun e w' => e = .returned (tx (dec n)) ∧ Below w.heap.size w w' := by
  intro n
  induction n using Nat.strongRecOn with
  | ind n ih =>
  intro w hn
  by_cases hlt : n < 10
  · exact decimal_one n w hlt
  · have h9 : ¬ (n : Int) < 10 := by omega
    have hq : (n : Int).tdiv 10 = ((n / 10 : Nat) : Int) := by rw [Int.tdiv_eq_ediv_of_nonneg (by omega)]; omega
    have hr : (n : Int).tmod 10 = ((n % 10 : Nat) : Int) := by rw [Int.tmod_eq_emod_of_nonneg (by omega)]; omega
    have c1 := ih (n / 10) (by omega)
    have l1 := dec_len 9 (n / 10) (by omega)
    have hq9 : n / 10 ≤ 1000000000 := by omega
    have hr9 : n % 10 < 10 := by omega
    have hx0 := digit_val hr9
    obtain ⟨X, hX⟩ : ∃ X, X = UInt8.ofNat (48 + n % 10) := ⟨_, rfl⟩
    obtain ⟨D1, hD1⟩ : ∃ D, D = dec (n / 10) := ⟨_, rfl⟩
    have HDD := hid (show dec n = D1 ++ [X] by rw [dec_ge hlt, hD1, hX, dec_lt hr9])
    rw [← hX] at hx0
    have H1 := hid hD1
    rw [← hD1] at l1
    have C1 := hid c1
    clear c1 ih hlt hX hD1
    obtain ⟨m1, hm1⟩ : ∃ m, m = n / 10 := ⟨_, rfl⟩
    obtain ⟨m2, hm2⟩ : ∃ m, m = n % 10 := ⟨_, rfl⟩
    rw [← hm1] at hq H1 C1 hq9
    rw [← hm2] at hr hr9 hx0
    have hw : IntKind.i64.wrap (48 + (m2 : Int)) = 48 + (m2 : Int) := by rw [IntKind.wrap_i64]; omega
    have hu : IntKind.u8.wrap (48 + (m2 : Int)) = 48 + (m2 : Int) := by simp [IntKind.wrap, IntKind.bits, IntKind.signed]; omega
    have hcv := fun (w' : World) (b : Nat) (h : w'.cell? ⟨b, 0, none⟩ = some (.int .u8 (48 + (m2 : Int)))) => byte_text w' b X (48 + (m2 : Int)) (by rw [hx0]; omega) h
    obtain ⟨XS, hXS⟩ : ∃ XS, XS = [X] := ⟨_, rfl⟩
    have hxl : XS.length ≤ 1 := by rw [hXS]; simp
    rw [← hXS] at HDD
    simp only [← hXS] at hcv
    have hs : ¬ D1.length + XS.length > 9223372036854775807 := by omega
    clear hXS
    have hbd : Below w.heap.size w w.drew := (Below.refl _ _).drew
    clear hm1 hm2 hx0 hr9
    have hwm : IntKind.i64.wrap (m1 : Int) = (m1 : Int) := by rw [IntKind.wrap_i64]; omega
    unfold tx at hcv
    have HCV := hid hcv
    clear hcv
    have px := At.new w 5 #[.int .u8 (48 + (m2 : Int))]
    have pd := px.drew
    have hcA := HCV.out _ _ (pd.cell 0)
    have pd2 : At (w.drew.alloc (.cells #[.int .u8 (48 + (m2 : Int))] 5)) w.heap.size 5 #[.int .u8 (48 + (m2 : Int))] := At.newAt _ _ rfl
    have hcA2 := HCV.out _ _ (pd2.cell 0)
    have hcA3 := HCV.out _ _ (px.cell 0)
    go_enter Try.func49, Try.ntmps49
    go_wp2_with fail
    go_region_with (first
        | (go_at_call 49; (with_reducible refine (C1.out w.drew hq9).mono ?_); rintro e w1 ⟨he, hb1⟩; rw [← H1.out] at he; subst he; unfold tx; have p1 := At.new w1 5 #[.int .u8 (48 + (m2 : Int))]; have hcC := HCV.out _ _ (p1.cell 0); have hbf := hbd.trans hb1)
        | (go_at_call 49; (with_reducible refine (C1.out (w.alloc (.cells #[.int .u8 (48 + (m2 : Int))] 5)).drew hq9).mono ?_); rintro e w1 ⟨he, hb1⟩; rw [← H1.out] at he; subst he; unfold tx; have p1 := pd.below hb1 pd.lt; have hcC := HCV.out _ _ (p1.cell 0); have hbf := (((Below.refl w.heap.size w).alloc (Nat.le_refl _) _).drew).trans (hb1.mono (by simp)))
        | fail)
    all_goals
      go_wp2
      go_ret
      exact ⟨by rw [HDD.out, ByteArray.mk_append_mk]; rfl, by first | exact hbf | exact hbf.alloc hbf.size _⟩

end Go.Proofs.Ytehdbllpiokbnab
