/-
  What the generator's functions answer that pick one of some texts and that change a text. Condition: the reader stands at a place below 100000; the text is at most 2^20 bytes long.
-/
import Derived.Test.YtehdbllpiokbnabTxtA
import Derived.Test.YtehdbllpiokbnabReadB
import Derived.Laws.DeepStrings4
import Derived.Deep.RegionHeld3

namespace Go.Proofs.Ytehdbllpiokbnab
open Go.RowKit Txt

set_option maxHeartbeats 1000000 in
theorem ofStr_any (g p b n c : Nat) (xs : List (List UInt8)) (w : World) (h : Rd w g p) (hp : p < 100000) {cs : Array Value} (hb : At w b 9 cs) (hcs : cs = (xs.map tx).toArray) (hne : b ≠ g) (hn : n = xs.length) (h0 : 0 < n) (_h1 : n < 1000) :
    Calls Try.prog 61 #[.pointer (some ⟨g, 0, none⟩), .slice (some ⟨b, 0, none⟩) n c] w fun e w' => ∃ x, e = .returned (tx x) ∧ x ∈ xs ∧ w.grownBy w' (some g) ∧ Rd w' g (p + 1) := by
  subst hcs
  have HE := hid hn
  clear hn
  go_enter Try.func61, Try.ntmps61
  go_wp2_with fail
  refine (pick_any g p _ w h hp).mono ?_
  rintro e w1 ⟨x, rfl, hx0, hx1, hg1, hr1⟩
  obtain ⟨k, rfl⟩ : ∃ k : Nat, x = k := ⟨x.toNat, by omega⟩
  have hk : (k : Int) < (n : Int) := hx1 (by omega)
  have hk' : k < xs.length := by have := HE.out; omega
  have hc : w1.cell? ⟨b, k, none⟩ = some (.string (ByteArray.mk xs[k].toArray)) := by
    rw [(hb.past hg1 hne).cell k]
    simp [hk', tx]
  clear hx1
  go_wp2
  go_ret
  exact ⟨xs[k], rfl, List.getElem_mem hk', hg1, hr1⟩

def MutAns (S : List UInt8) (w : World) (g p : Nat) (e : Ending) (w' : World) : Prop := ∃ T q, e = .returned (tx T) ∧ T.length ≤ S.length + 3 ∧ w.grownBy w' (some g) ∧ Rd w' g q ∧ q ≤ p + 3
theorem cut_to (S : List UInt8) (k : Nat) : (ByteArray.mk S.toArray).extract 0 k = ByteArray.mk (S.take k).toArray := by rw [ByteArray.extract_mk]; simp
theorem cut_from (S : List UInt8) (k : Nat) : (ByteArray.mk S.toArray).extract k S.length = ByteArray.mk (S.drop k).toArray := by
  rw [ByteArray.extract_mk, List.take_of_length_le (by rw [List.length_drop]; exact Nat.le_refl _)]
theorem grownAlloc (w : World) (o : Obj) (row : Option Nat) : w.grownBy (w.alloc o) row := grown_of_below ((Below.refl _ _).alloc (Nat.le_refl _) o) row
theorem grownDrew (w : World) (row : Option Nat) : w.grownBy w.drew row := grown_of_below (Below.refl _ _).drew row
set_option maxHeartbeats 4000000 in
theorem mutate_any (S : List UInt8) (g p : Nat) (w : World) (h : Rd w g p) (hp : p < 90000) (hS : S.length ≤ 1048576) :
    Calls Try.prog 37 #[.pointer (some ⟨g, 0, none⟩), tx S] w (MutAns S w g p) := by
  have hg := h.lt
  have hw0 : IntKind.i64.wrap ((S.length : Int) + 1) = (S.length : Int) + 1 := by rw [IntKind.wrap_i64]; omega
  have HS := hid hS
  unfold tx
  go_enter Try.func37, Try.ntmps37
  go_wp2_with fail
  refine (pick_any g p _ w h (by omega)).mono ?_
  rintro e w1 ⟨x, rfl, hx0, hx1, hg1, hr1⟩
  obtain ⟨k, rfl⟩ : ∃ k : Nat, x = k := ⟨x.toNat, by omega⟩
  have hk1 : (k : Int) < (S.length : Int) + 1 := hx1 (by omega)
  have hk : k ≤ S.length := by omega
  clear hx1 hx0 hk1
  go_wp2_with fail
  refine (pick_any g (p + 1) _ w1 hr1 (by omega)).mono ?_
  rintro e w2 ⟨y, rfl, hy0, hy1, hg2, hr2⟩
  have hy5 := hy1 (by omega)
  have hgg := hg1.trans hg2
  have hz2 := hgg.size
  clear hy1 hg1 hg2 hr1 h
  have hk0 : (0 : Int) ≤ (k : Int) := by omega
  have hkl : (k : Int) ≤ (S.length : Int) := by omega
  rcases Decidable.em (y = 0) with rfl | hy
  · by_cases hlt : k < S.length
    · have hi : (k : Int) < (S.length : Int) := by omega
      have hw1 : IntKind.i64.wrap ((k : Int) + 1) = (k : Int) + 1 := by rw [IntKind.wrap_i64]; omega
      have hk10 : (0 : Int) ≤ (k : Int) + 1 := by omega
      have hk1l : (k : Int) + 1 ≤ (S.length : Int) := by omega
      have HX8 := hid (show (#[.string (ByteArray.mk #[48]), .string (ByteArray.mk #[49]), .string (ByteArray.mk #[32]), .string (ByteArray.mk #[124]), .string (ByteArray.mk #[44]), .string (ByteArray.mk #[58]), .string (ByteArray.mk #[61]), .string (ByteArray.mk #[57])] : Array Value) = (([[48], [49], [32], [124], [44], [58], [61], [57]] : List (List UInt8)).map tx).toArray from rfl)
      have HN8 : Hid (8 = ([[48], [49], [32], [124], [44], [58], [61], [57]] : List (List UInt8)).length) := hid rfl
      have hne : w2.heap.size ≠ g := by omega
      have hp2 : p + 1 + 1 < 100000 := by omega
      have px := At.new w2 9 #[.string (ByteArray.mk #[48]), .string (ByteArray.mk #[49]), .string (ByteArray.mk #[32]), .string (ByteArray.mk #[124]), .string (ByteArray.mk #[44]), .string (ByteArray.mk #[58]), .string (ByteArray.mk #[61]), .string (ByteArray.mk #[57])]
      have hgx := hgg.trans (grownAlloc w2 (.cells #[.string (ByteArray.mk #[48]), .string (ByteArray.mk #[49]), .string (ByteArray.mk #[32]), .string (ByteArray.mk #[124]), .string (ByteArray.mk #[44]), .string (ByteArray.mk #[58]), .string (ByteArray.mk #[61]), .string (ByteArray.mk #[57])] 9) (some g))
      have HL := hid (fun (x : List UInt8) (hx : x ∈ [[48], [49], [32], [124], [44], [58], [61], [57]]) => (by simp only [List.mem_cons, List.not_mem_nil, or_false] at hx; rcases hx with rfl | rfl | rfl | rfl | rfl | rfl | rfl | rfl <;> simp : x.length ≤ 1))
      have hrx := hr2.alloc (.cells #[.string (ByteArray.mk #[48]), .string (ByteArray.mk #[49]), .string (ByteArray.mk #[32]), .string (ByteArray.mk #[124]), .string (ByteArray.mk #[44]), .string (ByteArray.mk #[58]), .string (ByteArray.mk #[61]), .string (ByteArray.mk #[57])] 9)
      have hs1 : ∀ n : Nat, n ≤ 1 → ¬ min k S.length + n > 9223372036854775807 := fun n hn => by omega
      obtain ⟨K1, hK1⟩ : ∃ K1, K1 = S.take k := ⟨_, rfl⟩
      obtain ⟨K2, hK2⟩ : ∃ K2, K2 = S.drop (k + 1) := ⟨_, rfl⟩
      have hc1 : (ByteArray.mk S.toArray).extract 0 k = ByteArray.mk K1.toArray := by rw [hK1]; exact cut_to S k
      have hc2 : (ByteArray.mk S.toArray).extract (k + 1) S.length = ByteArray.mk K2.toArray := by rw [hK2]; exact cut_from S (k + 1)
      have l1 : K1.length ≤ 1048576 := by rw [hK1, List.length_take]; omega
      have l2 : K2.length ≤ 1048576 := by rw [hK2, List.length_drop]; omega
      have HLN : Hid (K1.length + K2.length + 1 = S.length) := hid (by rw [hK1, hK2, List.length_take, List.length_drop]; omega)
      clear hK1 hK2 hs1
      go_wp2_with fail
      go_region_with (first
        | (go_at_call 61; (with_reducible refine (ofStr_any g (p + 1 + 1) w2.heap.size 8 8 [[48], [49], [32], [124], [44], [58], [61], [57]] _ hrx hp2 px HX8.out hne HN8.out (by decide) (by decide)).mono ?_); rintro e w3 ⟨x, rfl, hx, hg3, hr3⟩; have hxl := HL.out x hx; have hg4 := hgx.trans hg3; have hs1 : ¬ K1.length + x.length > 9223372036854775807 := (by omega); have hs2 : ¬ K1.length + x.length + K2.length > 9223372036854775807 := (by omega); unfold tx)
        | (go_at_call 61; (with_reducible refine (ofStr_any g (p + 1 + 1) w2.heap.size 8 8 [[48], [49], [32], [124], [44], [58], [61], [57]] _ hrx.drew hp2 px.drew HX8.out hne HN8.out (by decide) (by decide)).mono ?_); rintro e w3 ⟨x, rfl, hx, hg3, hr3⟩; have hxl := HL.out x hx; have hg4 := (hgx.trans (grownDrew _ (some g))).trans hg3; have hs1 : ¬ K1.length + x.length > 9223372036854775807 := (by omega); have hs2 : ¬ K1.length + x.length + K2.length > 9223372036854775807 := (by omega); unfold tx)
        | fail)
      all_goals
        go_wp2
        go_ret
        exact ⟨K1 ++ x ++ K2, p + 1 + 1 + 1, by unfold tx; rw [← ByteArray.mk_append_mk, ← ByteArray.mk_append_mk]; rfl, by have := HLN.out; rw [List.length_append, List.length_append]; omega, hg4, hr3, by omega⟩
    · have hi : ¬ (k : Int) < (S.length : Int) := by omega
      go_wp2
      go_ret
      exact ⟨S, p + 1 + 1, rfl, by omega, hgg, hr2, by omega⟩
  have hy0b : (y == 0) = false := by simpa using hy
  rcases Decidable.em (y = 1) with rfl | hy1
  · obtain ⟨K1, hK1⟩ : ∃ K1, K1 = S.take k := ⟨_, rfl⟩
    have hc1 : (ByteArray.mk S.toArray).extract 0 k = ByteArray.mk K1.toArray := by rw [hK1]; exact cut_to S k
    have l1 : K1.length ≤ S.length := by rw [hK1, List.length_take]; omega
    clear hK1
    go_wp2
    go_ret
    exact ⟨K1, p + 1 + 1, rfl, by omega, hgg, hr2, by omega⟩
  have hy1b : (y == 1) = false := by simpa using hy1
  rcases Decidable.em (y = 2) with rfl | hy2
  · have HX6 := hid (show (#[.string (ByteArray.mk #[48]), .string (ByteArray.mk #[32]), .string (ByteArray.mk #[48, 58, 49]), .string (ByteArray.mk #[44, 49]), .string (ByteArray.mk #[120]), .string (ByteArray.mk #[124])] : Array Value) = (([[48], [32], [48, 58, 49], [44, 49], [120], [124]] : List (List UInt8)).map tx).toArray from rfl)
    have HN6 : Hid (6 = ([[48], [32], [48, 58, 49], [44, 49], [120], [124]] : List (List UInt8)).length) := hid rfl
    have hne : w2.heap.size ≠ g := by omega
    have hp2 : p + 1 + 1 < 100000 := by omega
    have px := At.new w2 9 #[.string (ByteArray.mk #[48]), .string (ByteArray.mk #[32]), .string (ByteArray.mk #[48, 58, 49]), .string (ByteArray.mk #[44, 49]), .string (ByteArray.mk #[120]), .string (ByteArray.mk #[124])]
    have hgx := hgg.trans (grownAlloc w2 (.cells #[.string (ByteArray.mk #[48]), .string (ByteArray.mk #[32]), .string (ByteArray.mk #[48, 58, 49]), .string (ByteArray.mk #[44, 49]), .string (ByteArray.mk #[120]), .string (ByteArray.mk #[124])] 9) (some g))
    have HL := hid (fun (x : List UInt8) (hx : x ∈ [[48], [32], [48, 58, 49], [44, 49], [120], [124]]) => (by simp only [List.mem_cons, List.not_mem_nil, or_false] at hx; rcases hx with rfl | rfl | rfl | rfl | rfl | rfl <;> simp : x.length ≤ 3))
    have hrx := hr2.alloc (.cells #[.string (ByteArray.mk #[48]), .string (ByteArray.mk #[32]), .string (ByteArray.mk #[48, 58, 49]), .string (ByteArray.mk #[44, 49]), .string (ByteArray.mk #[120]), .string (ByteArray.mk #[124])] 9)
    go_wp2_with fail
    (with_reducible refine (ofStr_any g (p + 1 + 1) w2.heap.size 6 6 [[48], [32], [48, 58, 49], [44, 49], [120], [124]] _ hrx hp2 px HX6.out hne HN6.out (by decide) (by decide)).mono ?_)
    rintro e w3 ⟨x, rfl, hx, hg3, hr3⟩
    have hxl := HL.out x hx
    have hg4 := hgx.trans hg3
    have hs1 : ¬ S.length + x.length > 9223372036854775807 := by omega
    unfold tx
    go_wp2
    go_ret
    exact ⟨S ++ x, p + 1 + 1 + 1, by unfold tx; rw [← ByteArray.mk_append_mk]; rfl, by rw [List.length_append]; omega, hg4, hr3, by omega⟩
  have hy2b : (y == 2) = false := by simpa using hy2
  go_wp2
  go_ret
  exact ⟨S, p + 1 + 1, rfl, by omega, hgg, hr2, by omega⟩

end Go.Proofs.Ytehdbllpiokbnab
