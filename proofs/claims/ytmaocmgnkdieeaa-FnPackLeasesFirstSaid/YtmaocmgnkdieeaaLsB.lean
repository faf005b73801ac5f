/-
  What the program's validTimes, validLease and isFree answer. Condition: the list lies in memory.
-/
import Derived.Test.YtmaocmgnkdieeaaLsA
namespace Go.Proofs.Ytmaocmgnkdieeaa
open Go.RowKit Lse

def timesB (f u : Int) : Bool := decide (0 ≤ f ∧ f < u ∧ u ≤ 1000)
theorem L.ok_times {x : L} : x.ok = (decide (0 ≤ x.c ∧ x.c < 6) && (decide (0 ≤ x.o ∧ x.o < 5) && timesB x.f x.u)) := by
  unfold L.ok timesB
  rw [Bool.eq_iff_iff]
  simp [and_assoc]

set_option maxHeartbeats 400000 in
theorem validTimes_any (f u : Int) (w : World) :
    Calls Try.prog 28 #[.int .i64 f, .int .i64 u] w fun e w' => e = .returned (.bool (timesB f u)) ∧ w = w' := by
  unfold timesB
  by_cases h1 : 0 ≤ f
  · by_cases h2 : f < u
    · by_cases h3 : u ≤ 1000
      · go_enter Try.func28, Try.ntmps28
        go_wp2
        go_ret
        exact ⟨ret_bool (by first | (simp; done) | (simp; omega)), rfl⟩
      · go_enter Try.func28, Try.ntmps28
        go_wp2
        go_ret
        exact ⟨ret_bool (by first | (simp; done) | (simp; omega)), rfl⟩
    · go_enter Try.func28, Try.ntmps28
      go_wp2
      go_ret
      exact ⟨ret_bool (by first | (simp; done) | (simp; omega)), rfl⟩
  · go_enter Try.func28, Try.ntmps28
    go_wp2
    go_ret
    exact ⟨ret_bool (by first | (simp; done) | (simp; omega)), rfl⟩

set_option maxHeartbeats 1000000 in
theorem ivalidLease_any (x : L) (w : World) :
    Calls Try.prog 22 #[.agg #[.int .i64 x.c, .int .i64 x.o, .int .i64 x.f, .int .i64 x.u]] w fun e w' => e = .returned (.bool x.ok) ∧ Below w.heap.size w w' := by
  rw [L.ok_times]
  by_cases h1 : 0 ≤ x.c
  · by_cases h2 : x.c < 6
    · by_cases h3 : 0 ≤ x.o
      · by_cases h4 : x.o < 5
        · go_enter Try.func22, Try.ntmps22
          go_wp2_with fail
          refine (validTimes_any _ _ _).mono ?_
          rintro e w1 ⟨rfl, rfl⟩
          go_wp2
          go_ret
          exact ⟨by simp [h1, h2, h3, h4], (Below.refl _ _).alloc (Nat.le_refl _) _⟩
        · go_enter Try.func22, Try.ntmps22
          go_wp2
          go_ret
          exact ⟨ret_bool (by simp; intros; omega), (Below.refl _ _).alloc (Nat.le_refl _) _⟩
      · go_enter Try.func22, Try.ntmps22
        go_wp2
        go_ret
        exact ⟨ret_bool (by simp; intros; omega), (Below.refl _ _).alloc (Nat.le_refl _) _⟩
    · go_enter Try.func22, Try.ntmps22
      go_wp2
      go_ret
      exact ⟨ret_bool (by simp; intros; omega), (Below.refl _ _).alloc (Nat.le_refl _) _⟩
  · go_enter Try.func22, Try.ntmps22
    go_wp2
    go_ret
    exact ⟨ret_bool (by simp; intros; omega), (Below.refl _ _).alloc (Nat.le_refl _) _⟩

theorem freeB_take_succ {l : List L} {k : Nat} (hk : k < l.length) {c f u : Int} : freeB (l.take (k + 1)) c f u = (freeB (l.take k) c f u && decide (¬ hits l[k] c f u)) := by
  rw [Bool.eq_iff_iff, Bool.and_eq_true, freeB_iff, freeB_iff, decide_eq_true_eq, List.take_succ_eq_append_getElem hk]
  simp only [List.mem_append, List.mem_singleton]
  exact ⟨fun h => ⟨fun x hx => h x (.inl hx), h _ (.inr rfl)⟩, fun h x hx => hx.elim (h.1 x) (fun e => e ▸ h.2)⟩

set_option maxHeartbeats 1000000 in
theorem isFree_any (A : Option Addr) (m c : Nat) (l : List L) (q f u : Int) (w : World) {B : Nat} (h : Sees w B A (lvals l)) (hB : B ≤ w.heap.size) (hm : l.length = m) (hn : m ≤ 4194304) :
    Calls Try.prog 23 #[.slice A m c, .int .i64 q, .int .i64 f, .int .i64 u] w fun e w' => e = .returned (.bool (freeB l q f u)) ∧ Below B w w' := by
  go_enter Try.func23, Try.ntmps23
  go_wp2
  go_loopw [13] (fun i wr => ∃ k : Nat, k ≤ m ∧ i = .int .i64 k ∧ freeB (l.take k) q f u = true ∧ Below B w wr) (fun i _ => m - (intOf i).toNat)
  case atStart => exact ⟨0, Nat.zero_le _, rfl, freeB_iff.2 (by simp), Below.refl _ _⟩
  case round =>
    obtain ⟨k, hk, rfl, hfr, hb⟩ := hrel
    have HF := hid hfr
    clear hfr
    by_cases hlt : k < m
    · have hi : (k : Int) < (m : Int) := by omega
      have hkl : k < l.length := by omega
      obtain ⟨b, o, rfl, hbl, e0, e1, e2, e3⟩ := (h.below hb).lease hkl
      have hz := hb.size
      have hbw : b < wr.heap.size := by omega
      have HS := hid (freeB_take_succ hkl (c := q) (f := f) (u := u))
      rcases d1 : (l[k].c == q) with _ | _
      · go_wp2
        go_roundw
        case rel => exact ⟨k + 1, by omega, by go_num, by rw [HS.out, HF.out, Bool.true_and, decide_eq_true_eq]; rintro ⟨r1, r2, r3⟩; first | (exact absurd r1 (by simpa using d1)) | omega, hb.alloc (by omega) _⟩
        case measure => simp [intOf]; omega
      · by_cases d2 : l[k].f < u
        · by_cases d3 : f < l[k].u
          · have hno : freeB l q f u = false := by
              rcases hh : freeB l q f u with _ | _
              · rfl
              · exact absurd ⟨by simpa using d1, d2, d3⟩ (freeB_iff.1 hh _ (List.getElem_mem hkl))
            go_wp2
            go_ret
            exact ⟨by first | rfl | simp [hno], hb.alloc (by omega) _⟩
          · go_wp2
            go_roundw
            case rel => exact ⟨k + 1, by omega, by go_num, by rw [HS.out, HF.out, Bool.true_and, decide_eq_true_eq]; rintro ⟨r1, r2, r3⟩; first | (exact absurd r1 (by simpa using d1)) | omega, hb.alloc (by omega) _⟩
            case measure => simp [intOf]; omega
        · go_wp2
          go_roundw
          case rel => exact ⟨k + 1, by omega, by go_num, by rw [HS.out, HF.out, Bool.true_and, decide_eq_true_eq]; rintro ⟨r1, r2, r3⟩; first | (exact absurd r1 (by simpa using d1)) | omega, hb.alloc (by omega) _⟩
          case measure => simp [intOf]; omega
    · have hi : ¬ (k : Int) < (m : Int) := by omega
      have hall : freeB l q f u = true := by
        have := HF.out
        rwa [take_whole (by omega)] at this
      go_wp2
      go_ret
      exact ⟨by first | rfl | simp [hall], hb⟩

end Go.Proofs.Ytmaocmgnkdieeaa
