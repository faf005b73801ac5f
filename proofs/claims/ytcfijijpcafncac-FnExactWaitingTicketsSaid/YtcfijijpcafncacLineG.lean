/-
  What the program's CallNext answers. Condition: the list lies in memory and is at most 2^22 long.
-/
import Derived.Test.YtcfijijpcafncacLineF
import Derived.Test.YtcfijijpcafncacOwnB
import Derived.Deep.RegionHeld3
namespace Go.Proofs.Ytcfijijpcafncac
open Go.RowKit

/-- What CallNext answers. -/
def CallAns (s n : Int) (g : List Int) (base : Nat) (e : Ending) (w' : World) : Prop :=
  (Line.callB s n g = true ∧ ∃ v, e = .returned (.tuple #[.agg #[.int .i64 (Line.callT s n g + 1), .int .i64 n, v], .int .i64 (Line.callT s n g), .bool true]) ∧ Own w' base v (Line.callG s n g)) ∨
  (Line.callB s n g = false ∧ e = .returned (.tuple #[.agg #[.int .i64 0, .int .i64 0, .slice none 0 0], .int .i64 (-1), .bool false]))

theorem callB_waitV {s n : Int} {g : List Int} : Line.callB s n g = decide (0 < (Line.waitV s n g).length) := by
  unfold Line.callB
  rcases hok : Line.okB s n g with _ | _
  · rw [Line.waitV_no hok]; rfl
  · rw [Line.waitV_yes hok]
    cases Line.waits s n g <;> simp
theorem callT_head {s n : Int} {g : List Int} (h : Line.callB s n g = true) (hl : 0 < (Line.waitV s n g).length) : (Line.waitV s n g)[0] = Line.callT s n g := by
  obtain ⟨hok, l, e⟩ := Line.call_parts h
  simp only [Line.waitV_yes hok, e, List.getElem_cons_zero]

set_option maxHeartbeats 1000000 in
theorem iCallNext_any (A : Option Addr) (c : Nat) (s n : Int) (g : List Int) (w : World) (h : Sees w w.heap.size A (ints g)) (hn : g.length ≤ 4194304) :
    Calls Try.prog 26 #[.agg #[.int .i64 s, .int .i64 n, .slice A g.length c]] w fun e w' => CallAns s n g w.heap.size e w' ∧ Below w.heap.size w w' := by
  have HN := hid hn; clear hn
  have hp := (h.alloc (Nat.le_refl _) (.cells #[.int .i64 s, .int .i64 n, .slice A g.length c] 27))
  have HW := hid (waitV_len s n g)
  rcases hb : Line.callB s n g with _ | _
  · have hl : ((Line.waitV s n g).length : Int) = 0 := by rw [callB_waitV] at hb; simp at hb; simp [hb]
    go_enter Try.func26, Try.ntmps26
    go_wp2_with (go_at_call 19; refine (iWaitingTickets_any _ _ _ _ _ _ (((h.alloc (Nat.le_refl _) _).alloc (by simp) _).more (by simp; omega)) HN.out).mono ?_; rintro e w1 ⟨v1, rfl, ho1, hb1⟩; obtain ⟨A1, c1, rfl, hs1⟩ := ho1.form; obtain ⟨hc1, hf1⟩ := below_cell hb1; have hz := hb1.size)
    simp only [World.size_alloc] at hz
    refine bodyPost_ret (v := .tuple #[.agg #[.int .i64 0, .int .i64 0, .slice none 0 0], .int .i64 (-1), .bool false]) (by simp [results, Try.results26, go_sem, hc1]) rfl ⟨.inr ⟨hb, rfl⟩, ?_⟩
    exact ((((((Below.refl _ _).alloc (Nat.le_refl _) _).alloc (by simp) _).trans (hb1.mono (by simp; omega))).setCell (by simp) _).setCell (by simp) _).setCell (by simp) _
  · have hlen : 0 < (Line.waitV s n g).length := by rw [callB_waitV] at hb; simpa using hb
    have HT := hid (callT_head hb hlen)
    have hm := Line.callT_mem hb
    obtain ⟨a1, a2, a3, a4, a5, _, _⟩ := Line.okB_iff.1 (Line.call_parts hb).1
    obtain ⟨m1, m2, _⟩ := hm
    go_enter Try.func26, Try.ntmps26
    go_wp2_with fail
    refine (iWaitingTickets_any _ _ _ _ _ _ (((h.alloc (Nat.le_refl _) _).alloc (by simp) _).more (by simp; omega)) HN.out).mono ?_
    rintro e w1 ⟨v1, rfl, ho1, hb1⟩
    obtain ⟨A1, c1, rfl, hs1⟩ := ho1.form
    have hz := hb1.size
    obtain ⟨b, o, rfl, _, hc⟩ := hs1.int hlen
    rw [HT.out, Nat.add_zero] at hc
    have hlen' : (0 : Int) < ((Line.waitV s n g).length : Int) := by omega
    have hne : (((Line.waitV s n g).length : Int) == 0) = false := by rw [beq_eq_false_iff_ne]; omega
    go_wp2
    have hs2 : Sees w1 w1.heap.size A (ints g) := ((((h.alloc (Nat.le_refl _) _).alloc (by simp) _).more (by simp; omega)).below hb1).more (by simpa using hz)
    have hzz : w.heap.size + 1 < w1.heap.size := by simp only [World.size_alloc] at hz; omega
    have b0 : At w1 w.heap.size 27 #[.int .i64 s, .int .i64 n, .slice A g.length c] := ((At.new _ _ _).alloc _).below hb1 (by simp; omega)
    have b1 : At w1 (w.heap.size + 1) 27 #[.int .i64 0, .int .i64 0, .slice none 0 0] := by
      have := (At.new (w.alloc (.cells #[.int .i64 s, .int .i64 n, .slice A g.length c] 27)) 27 #[.int .i64 0, .int .i64 0, .slice none 0 0]).below hb1 (by simp)
      simpa using this
    have k0 : w1.cell? ⟨w.heap.size, 0, none⟩ = some (.int .i64 s) := b0.cell 0
    have k1 : w1.cell? ⟨w.heap.size, 1, none⟩ = some (.int .i64 n) := b0.cell 1
    have k2 : w1.cell? ⟨w.heap.size, 2, none⟩ = some (.slice A g.length c) := b0.cell 2
    go_region_held3 (fun w' => w'.cell? ⟨w.heap.size, 0, none⟩ = some (.int .i64 s) ∧ w'.cell? ⟨w.heap.size, 1, none⟩ = some (.int .i64 n) ∧ w'.cell? ⟨w.heap.size, 2, none⟩ = some (.slice A g.length c))
      (first | exact ⟨k0, k1, k2⟩ | exact ⟨d0 0, d0 1, d0 2⟩ | go_keep)
      (first | (go_at_call 34; refine (numbersFrom_any _ _ _ _ _ hs2.drew HN.out).mono ?_; rintro e w2 ⟨v2, rfl, ho2, hb2⟩; obtain ⟨A2, c2, rfl, hs3⟩ := ho2.form; have hz2 := hb2.size; have d0 := (b0.drew.below hb2 (by simpa using b0.lt)).cell; have d1 := (b1.drew.below hb2 (by simpa using b1.lt)).cell; have g1 := (b1.drew.below hb2 (by simpa using b1.lt)).frozen))
    go_wp2
    refine bodyPost_ret (v := .tuple #[.agg #[.int .i64 (Line.callT s n g + 1), .int .i64 n, .slice A2 (Line.callG s n g).length c2], .int .i64 (Line.callT s n g), .bool true]) (by simp [results, Try.results26, go_sem, d1, Line.callG]) rfl ⟨.inl ⟨hb, _, rfl, ?_⟩, ?_⟩
    · exact (((ho2.setCell (by simpa using hzz) _).setCell (by simpa using hzz) _).setCell (by simpa using hzz) _).mono (by simp; omega)
    · exact (((((((Below.refl _ _).alloc (Nat.le_refl _) _).alloc (by simp) _).trans (hb1.mono (by simp; omega))).drew.trans (hb2.mono (by simp; omega))).setCell (by simp) _).setCell (by simp) _).setCell (by simp) _

end Go.Proofs.Ytcfijijpcafncac
