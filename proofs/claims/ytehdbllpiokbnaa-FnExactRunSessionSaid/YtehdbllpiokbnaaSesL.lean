/-
  What the helpers of the exact law on sessions answer: lists of texts are measured, copied and compared. Condition: the texts lie in memory.
-/
import Derived.Test.YtehdbllpiokbnaaTa
import Derived.Test.YtehdbllpiokbnaaExA
import Derived.BigQuiet

namespace Go.Proofs.Ytehdbllpiokbnaa
open Go.RowKit Txt

theorem strip_tx (l : List (List UInt8)) : strip tcell l = l.map tx := by
  induction l with
  | nil => rfl
  | cons x l ih => rw [strip_cons, ih]; rfl
set_option maxHeartbeats 1000000 in
theorem szStringS_any (A : Option Addr) (c : Nat) (ls : List (List UInt8)) (w : World) (h : Sees w w.heap.size A (strip tcell ls)) (hn : ls.length ≤ maxLen) (hm : ∀ t ∈ ls, t.length ≤ maxLen) :
    Calls Try.prog 26 #[.slice A ls.length c, .int .i64 1048576] w fun e w' => (∃ r : Int, e = .returned (.int .i64 r) ∧ (0 ≤ r → ls.length ≤ 1048576 ∧ ∀ t ∈ ls, t.length ≤ 1048576)) ∧ w = w' := by
  have HM := hid hm
  unfold maxLen at hn
  have HN := hid hn
  have hw0 : IntKind.i64.wrap (1048576 - (ls.length : Int)) = 1048576 - (ls.length : Int) := by rw [IntKind.wrap_i64]; omega
  clear hm hn
  by_cases hbig : 1048576 < ls.length
  · have h1 : 1048576 - (ls.length : Int) < 0 := by omega
    clear hbig
    go_enter Try.func26, Try.ntmps26
    go_wp2
    go_ret
    exact ⟨⟨-1, rfl, fun h => by omega⟩, rfl⟩
  · have h1 : ¬ 1048576 - (ls.length : Int) < 0 := by omega
    have HB := hid hbig
    clear hbig
    go_enter Try.func26, Try.ntmps26
    go_wp2
    go_loop [1, 5] (fun v i => ∃ k q : Nat, k ≤ ls.length ∧ i = .int .i64 k ∧ v = .int .i64 (q : Int) ∧ q ≤ 1048576 ∧ Hid (∀ t ∈ ls.take k, t.length ≤ 1048576)) (fun _ i => ls.length - (intOf i).toNat)
    case atStart => exact ⟨0, 1048576 - ls.length, Nat.zero_le _, rfl, by congr 1; have := HB.out; omega, by omega, hid (by simp)⟩
    case round =>
      obtain ⟨k, q, hk, rfl, rfl, hq, HT⟩ := hrel
      have hb := HB.out
      by_cases hlt : k < ls.length
      · have hi : (k : Int) < (ls.length : Int) := by omega
        obtain ⟨b, o, rfl, _, e0⟩ := h.word hlt
        have hx := HM.out _ (List.getElem_mem hlt)
        have HS := hid (fun (hx : ls[k].length ≤ 1048576) => (show ∀ t ∈ ls.take (k + 1), t.length ≤ 1048576 by
          rw [List.take_succ_eq_append_getElem hlt]
          intro t ht
          rw [List.mem_append, List.mem_singleton] at ht
          rcases ht with ht | rfl
          · exact HT.out t ht
          · exact hx))
        obtain ⟨x, hxe⟩ : ∃ x, x = ls[k] := ⟨_, rfl⟩
        rw [← hxe] at e0 hx HS
        clear hxe
        unfold maxLen at hx
        have hw : IntKind.i64.wrap ((q : Int) - (x.length : Int)) = (q : Int) - (x.length : Int) := by rw [IntKind.wrap_i64]; omega
        by_cases hneg : (q : Int) - (x.length : Int) < 0
        · go_wp2
          go_ret
          exact ⟨⟨-1, rfl, fun h => by omega⟩, rfl⟩
        · have HS2 := hid (HS.out (by omega))
          have hqx : (q : Int) - (x.length : Int) = ((q - x.length : Nat) : Int) := by omega
          have HQ := hid hqx
          clear hqx HS
          go_wp2
          go_round
          case rel => exact ⟨k + 1, q - x.length, by omega, by go_num, by rw [HQ.out], by omega, HS2⟩
          case measure => simp [intOf]; omega
      · have hi : ¬ (k : Int) < (ls.length : Int) := by omega
        have hT := HT.out
        rw [List.take_of_length_le (by omega)] at hT
        have HT2 := hid hT
        clear hT
        go_wp2
        go_ret
        exact ⟨⟨(q : Int), rfl, fun _ => ⟨by omega, HT2.out⟩⟩, rfl⟩

set_option maxHeartbeats 1000000 in
theorem toStringS_any (A : Option Addr) (c : Nat) (xs : List (List UInt8)) (w : World) (h : Sees w w.heap.size A (strip tcell xs)) (hn : xs.length ≤ 4194304) :
    Calls Try.prog 28 #[.slice A xs.length c] w fun e w' => ∃ v, e = .returned v ∧ OwnS 9 1 tcell w' w.heap.size v xs ∧ Below w.heap.size w w' := by
  obtain ⟨i0, hi0, hz0, hz1, hz2⟩ := info_parts strInfo
  have HN := hid hn; clear hn
  go_enter Try.func28, Try.ntmps28
  go_wp2_with (refine wpList_make_full _ rfl _ _ 48 rfl w.heap.size 9 i0 (.string ⟨#[]⟩) 1 Try.underlying48 hi0 hz0 hz1 .i64 .i64 xs.length xs.length xs.length rfl rfl rfl rfl (by rw [hz2]; have := HN.out; omega) (by have := HN.out; unfold maxLen; omega) (Nat.le_refl _) ?_)
  case _ =>
    intro w1 h1 hg1
    have ho1 : w1.ownsRow w.heap.size 9 1 (.slice (some ⟨w.heap.size, 0, none⟩) xs.length xs.length) xs.length (List.replicate xs.length (.string ⟨#[]⟩)) := by
      have e : (madeCells #[Value.string ⟨#[]⟩] xs.length).toList = List.replicate xs.length (.string ⟨#[]⟩) := by simp [madeCells, Nat.mod_one, List.map_const']
      simpa [e, Value.cells] using h1
    have hb1 : Below w.heap.size w w1 := (Below.refl _ _).grown hg1 (Nat.le_refl _) (fun k hk => by cases hk)
    clear h1 hg1
    go_wp2
    go_loopw [4] (fun i wr => ∃ k : Nat, k ≤ xs.length ∧ i = .int .i64 k ∧ wr.ownsRow w.heap.size 9 1 (.slice (some ⟨w.heap.size, 0, none⟩) xs.length xs.length) xs.length ((xs.take k).map tx ++ List.replicate (xs.length - k) (.string ⟨#[]⟩)) ∧ Below w.heap.size w wr) (fun i _ => xs.length - (intOf i).toNat)
    case atStart => exact ⟨0, Nat.zero_le _, rfl, by simpa using ho1, hb1⟩
    case round =>
      obtain ⟨k, hk, rfl, ho, hb⟩ := hrel
      have hn := HN.out
      by_cases hlt : k < xs.length
      · obtain ⟨b, o, rfl, _, hc⟩ := (h.below hb).word hlt
        have hi : (k : Int) < (xs.length : Int) := by omega
        obtain ⟨u, hcell⟩ : ∃ u, wr.cell? ⟨w.heap.size, k, none⟩ = some u := by
          obtain ⟨b, o, e, _, hh⟩ := Sees.of_own ho (by intro e; have := congrArg List.length e; rw [List.length_append, List.length_replicate, List.length_map, List.length_take, List.length_nil] at this; omega)
          injection e with e
          injection e with e1 e2
          subst e1 e2
          have := hh k (Value.string ⟨#[]⟩) (by rw [List.getElem?_append_right (by rw [List.length_map, List.length_take]; omega), List.length_map, List.length_take, Nat.min_eq_left hk, Nat.sub_self, List.getElem?_replicate, if_pos (by omega)])
          exact ⟨_, by simpa using this⟩
        have hfr := row_thaw ho
        have hput := row_put ho k (tx xs[k])
        have hset : ((xs.take k).map tx ++ List.replicate (xs.length - k) (Value.string ⟨#[]⟩)).set k (tx xs[k]) = (xs.take (k + 1)).map tx ++ List.replicate (xs.length - (k + 1)) (Value.string ⟨#[]⟩) := by
          rw [List.set_append_right _ _ (by simp; omega)]
          have e1 : xs.length - k = (xs.length - (k + 1)) + 1 := by omega
          rw [e1, List.replicate_succ]
          simp only [List.length_map, List.length_take, Nat.min_eq_left hk, Nat.sub_self, List.set_cons_zero]
          rw [List.take_succ_eq_append_getElem hlt, List.map_append, List.append_assoc]
          rfl
        rw [hset] at hput
        unfold tx at hput
        obtain ⟨x, hx⟩ : ∃ x, x = xs[k] := ⟨_, rfl⟩
        rw [← hx] at hc hput
        have HP := hid hput
        clear hset ho hput hx
        go_wp2
        go_roundw
        case rel => exact ⟨k + 1, by omega, by go_num, HP.out, hb.setCell (Nat.le_refl _) _⟩
        case measure => simp [intOf]; omega
      · have hi : ¬ (k : Int) < (xs.length : Int) := by omega
        go_wp2
        go_ret
        refine ⟨_, rfl, ?_, hb⟩
        have hk0 : xs.length - k = 0 := by omega
        rw [hk0, take_whole hlt, List.replicate_zero, List.append_nil, ← strip_tx] at ho
        exact ho

set_option maxHeartbeats 1000000 in
theorem eqStringS_same (A B : Option Addr) (c d : Nat) (xs : List (List UInt8)) (w : World) (h : Sees w w.heap.size A (strip tcell xs)) (h' : Sees w w.heap.size B (strip tcell xs)) (hn : xs.length ≤ 4194304) :
    Calls Try.prog 30 #[.slice A xs.length c, .slice B xs.length d] w fun e w' => e = .returned (.bool true) ∧ Below w.heap.size w w' := by
  have HN := hid hn; clear hn
  go_enter Try.func30, Try.ntmps30
  go_wp2
  go_loopw [5] (fun i wr => ∃ k : Nat, k ≤ xs.length ∧ i = .int .i64 k ∧ Below w.heap.size w wr) (fun i _ => xs.length - (intOf i).toNat)
  case atStart => exact ⟨0, Nat.zero_le _, rfl, Below.refl _ _⟩
  case round =>
    obtain ⟨k, hk, rfl, hb⟩ := hrel
    have hn := HN.out
    by_cases hlt : k < xs.length
    · have hi : (k : Int) < (xs.length : Int) := by omega
      obtain ⟨b, o, rfl, _, e0⟩ := (h.below hb).word hlt
      obtain ⟨b', o', rfl, _, e1⟩ := (h'.below hb).word hlt
      obtain ⟨x, hx⟩ : ∃ x, x = xs[k] := ⟨_, rfl⟩
      rw [← hx] at e0 e1
      clear hx
      go_wp2_with fail
      go_quiet (fail)
      go_wp2
      go_roundw
      case rel => exact ⟨k + 1, by omega, by go_num, below_drewN hb _⟩
      case measure => simp [intOf]; omega
    · have hi : ¬ (k : Int) < (xs.length : Int) := by omega
      go_wp2
      go_ret
      exact ⟨rfl, hb⟩

end Go.Proofs.Ytehdbllpiokbnaa
