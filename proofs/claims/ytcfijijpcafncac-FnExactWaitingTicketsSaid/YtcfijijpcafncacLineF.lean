/-
  What TakeTicket answers, the program's and the model's. Condition: the list lies in memory and is at most 2^22 long.
-/
import Derived.Test.YtcfijijpcafncacLineE
import Derived.Test.YtcfijijpcafncacOwnB
import Derived.Deep.RegionHeld3
namespace Go.Proofs.Ytcfijijpcafncac
open Go.RowKit

/-- What TakeTicket answers. -/
def TakeAns (s n : Int) (g : List Int) (base : Nat) (e : Ending) (w' : World) : Prop :=
  (Line.takeB s n g = true ∧ ∃ v, e = .returned (.tuple #[.agg #[.int .i64 s, .int .i64 (n + 1), v], .int .i64 n, .bool true]) ∧ Own w' base v g) ∨
  (Line.takeB s n g = false ∧ e = .returned (.tuple #[.agg #[.int .i64 0, .int .i64 0, .slice none 0 0], .int .i64 (-1), .bool false]))

set_option maxHeartbeats 1000000 in
theorem iTakeTicket_any (A : Option Addr) (c : Nat) (s n : Int) (g : List Int) (w : World) (h : Sees w w.heap.size A (ints g)) (hn : g.length ≤ 4194304) :
    Calls Try.prog 15 #[.agg #[.int .i64 s, .int .i64 n, .slice A g.length c]] w fun e w' => TakeAns s n g w.heap.size e w' ∧ Below w.heap.size w w' := by
  have HN := hid hn; clear hn
  have hp := (h.alloc (Nat.le_refl _) (.cells #[.int .i64 s, .int .i64 n, .slice A g.length c] 27))
  have hcase : (Line.okB s n g = true ∧ (n == 1000) = false ∧ (n - s == 12) = false ∧ Line.takeB s n g = true) ∨ (Line.okB s n g = true ∧ (n == 1000) = false ∧ (n - s == 12) = true ∧ Line.takeB s n g = false) ∨ (Line.okB s n g = true ∧ (n == 1000) = true ∧ Line.takeB s n g = false) ∨ (Line.okB s n g = false ∧ Line.takeB s n g = false) := by
    unfold Line.takeB
    rcases Line.okB s n g <;> simp
    omega
  rcases hcase with ⟨hok, h1, h2, ht⟩ | ⟨hok, h1, h2, ht⟩ | ⟨hok, h1, ht⟩ | ⟨hok, ht⟩
  · obtain ⟨a1, a2, a3, a4, a5, _, _⟩ := Line.okB_iff.1 hok
    have hfrom := hid (Line.from_all (l := g) (k := s) fun x hx => ((Line.okB_iff.1 hok).2.2.2.2.2.2 x hx).1)
    go_enter Try.func15, Try.ntmps15
    go_wp2_with (go_at_call 12; refine (iValidLine_any _ _ _ _ _ _ (((h.alloc (Nat.le_refl _) _).alloc (by simp) _).more (by simp; omega)) (Nat.le_trans HN.out (by decide))).mono ?_; rintro e w1 ⟨rfl, hb1⟩; obtain ⟨hc1, hf1⟩ := below_cell hb1; have hz := hb1.size)
    have hs1 : Sees w1 w1.heap.size A (ints g) := ((((h.alloc (Nat.le_refl _) _).alloc (by simp) _).more (by simp; omega)).below hb1).more (by simpa using hz)
    have hzz : w.heap.size + 1 < w1.heap.size := by simp only [World.size_alloc] at hz; omega
    have b0 : At w1 w.heap.size 27 #[.int .i64 s, .int .i64 n, .slice A g.length c] := ((At.new _ _ _).alloc _).below hb1 (by simp; omega)
    have b1 : At w1 (w.heap.size + 1) 27 #[.int .i64 0, .int .i64 0, .slice none 0 0] := by
      have := (At.new (w.alloc (.cells #[.int .i64 s, .int .i64 n, .slice A g.length c] 27)) 27 #[.int .i64 0, .int .i64 0, .slice none 0 0]).below hb1 (by simp)
      simpa using this
    clear hc1 hf1
    have hwr : IntKind.i64.wrap (n + 1) = n + 1 := by rw [IntKind.wrap_i64]; omega
    have k0 : w1.cell? ⟨w.heap.size, 0, none⟩ = some (.int .i64 s) := b0.cell 0
    have k1 : w1.cell? ⟨w.heap.size, 1, none⟩ = some (.int .i64 n) := b0.cell 1
    have k2 : w1.cell? ⟨w.heap.size, 2, none⟩ = some (.slice A g.length c) := b0.cell 2
    go_region_held3 (fun w' => w'.cell? ⟨w.heap.size, 0, none⟩ = some (.int .i64 s) ∧ w'.cell? ⟨w.heap.size, 1, none⟩ = some (.int .i64 n) ∧ w'.cell? ⟨w.heap.size, 2, none⟩ = some (.slice A g.length c))
      (first | exact ⟨k0, k1, k2⟩ | exact ⟨d0 0, d0 1, d0 2⟩ | go_keep)
      (first | (go_at_call 34; refine (numbersFrom_any _ _ _ _ _ hs1.drew HN.out).mono ?_; rintro e w2 ⟨v2, rfl, ho2, hb2⟩; rw [hfrom.out] at ho2; obtain ⟨A2, c2, rfl, hs2⟩ := ho2.form; have hz2 := hb2.size; have d0 := (b0.drew.below hb2 (by simpa using b0.lt)).cell; have d1 := (b1.drew.below hb2 (by simpa using b1.lt)).cell; have g1 := (b1.drew.below hb2 (by simpa using b1.lt)).frozen))
    go_wp2
    refine bodyPost_ret (v := .tuple #[.agg #[.int .i64 s, .int .i64 (n + 1), .slice A2 g.length c2], .int .i64 n, .bool true]) (by simp [results, Try.results15, go_sem, d1]) rfl ⟨.inl ⟨ht, _, rfl, ?_⟩, ?_⟩
    · exact (((ho2.setCell (by simpa using hzz) _).setCell (by simpa using hzz) _).setCell (by simpa using hzz) _).mono (by simp; omega)
    · exact (((((((Below.refl _ _).alloc (Nat.le_refl _) _).alloc (by simp) _).trans (hb1.mono (by simp; omega))).drew.trans (hb2.mono (by simp; omega))).setCell (by simp) _).setCell (by simp) _).setCell (by simp) _
  all_goals
    try obtain ⟨a1, a2, a3, a4, a5, _, _⟩ := Line.okB_iff.1 hok
    go_enter Try.func15, Try.ntmps15
    go_wp2_with (go_at_call 12; refine (iValidLine_any _ _ _ _ _ _ (((h.alloc (Nat.le_refl _) _).alloc (by simp) _).more (by simp; omega)) (Nat.le_trans HN.out (by decide))).mono ?_; rintro e w1 ⟨rfl, hb1⟩; obtain ⟨hc1, hf1⟩ := below_cell hb1; have hz := hb1.size)
    simp only [World.size_alloc] at hz
    refine bodyPost_ret (v := .tuple #[.agg #[.int .i64 0, .int .i64 0, .slice none 0 0], .int .i64 (-1), .bool false]) (by simp [results, Try.results15, go_sem, hc1]) rfl ⟨.inr ⟨ht, rfl⟩, ?_⟩
    exact ((((((Below.refl _ _).alloc (Nat.le_refl _) _).alloc (by simp) _).trans (hb1.mono (by simp; omega))).setCell (by simp) _).setCell (by simp) _).setCell (by simp) _

set_option maxHeartbeats 1000000 in
theorem sTakeTicket_any (A : Option Addr) (c : Nat) (s n : Int) (g : List Int) (w : World) (h : Sees w w.heap.size A (ints g)) (hn : g.length ≤ 4194304) :
    Calls Try.prog 14 #[.agg #[.int .i64 s, .int .i64 n, .slice A g.length c]] w fun e w' => TakeAns s n g w.heap.size e w' ∧ Below w.heap.size w w' := by
  have HN := hid hn; clear hn
  have hp := (h.alloc (Nat.le_refl _) (.cells #[.int .i64 s, .int .i64 n, .slice A g.length c] 27))
  have hcase : (Line.okB s n g = true ∧ (n == 1000) = false ∧ (n == s + 12) = false ∧ Line.takeB s n g = true) ∨ (Line.okB s n g = true ∧ (n == 1000) = false ∧ (n == s + 12) = true ∧ Line.takeB s n g = false) ∨ (Line.okB s n g = true ∧ (n == 1000) = true ∧ Line.takeB s n g = false) ∨ (Line.okB s n g = false ∧ Line.takeB s n g = false) := by
    unfold Line.takeB
    rcases Line.okB s n g <;> simp
    omega
  rcases hcase with ⟨hok, h1, h2, ht⟩ | ⟨hok, h1, h2, ht⟩ | ⟨hok, h1, ht⟩ | ⟨hok, ht⟩
  · obtain ⟨a1, a2, a3, a4, a5, _, _⟩ := Line.okB_iff.1 hok
    go_enter Try.func14, Try.ntmps14
    go_wp2_with (go_at_call 30; refine (svalidLine_any _ _ _ _ _ _ (((h.alloc (Nat.le_refl _) _).alloc (by simp) _).more (by simp; omega)) HN.out).mono ?_; rintro e w1 ⟨rfl, hb1⟩; obtain ⟨hc1, hf1⟩ := below_cell hb1; have hz := hb1.size)
    have hs1 : Sees w1 w1.heap.size A (ints g) := ((((h.alloc (Nat.le_refl _) _).alloc (by simp) _).more (by simp; omega)).below hb1).more (by simpa using hz)
    have hzz : w.heap.size + 1 < w1.heap.size := by simp only [World.size_alloc] at hz; omega
    have b0 : At w1 w.heap.size 27 #[.int .i64 s, .int .i64 n, .slice A g.length c] := ((At.new _ _ _).alloc _).below hb1 (by simp; omega)
    have b1 : At w1 (w.heap.size + 1) 27 #[.int .i64 0, .int .i64 0, .slice none 0 0] := by
      have := (At.new (w.alloc (.cells #[.int .i64 s, .int .i64 n, .slice A g.length c] 27)) 27 #[.int .i64 0, .int .i64 0, .slice none 0 0]).below hb1 (by simp)
      simpa using this
    clear hc1 hf1
    have hwr : IntKind.i64.wrap (n + 1) = n + 1 := by rw [IntKind.wrap_i64]; omega
    have k0 : w1.cell? ⟨w.heap.size, 0, none⟩ = some (.int .i64 s) := b0.cell 0
    have k1 : w1.cell? ⟨w.heap.size, 1, none⟩ = some (.int .i64 n) := b0.cell 1
    have k2 : w1.cell? ⟨w.heap.size, 2, none⟩ = some (.slice A g.length c) := b0.cell 2
    go_region_held3 (fun w' => w'.cell? ⟨w.heap.size, 0, none⟩ = some (.int .i64 s) ∧ w'.cell? ⟨w.heap.size, 1, none⟩ = some (.int .i64 n) ∧ w'.cell? ⟨w.heap.size, 2, none⟩ = some (.slice A g.length c))
      (first | exact ⟨k0, k1, k2⟩ | exact ⟨d0 0, d0 1, d0 2⟩ | go_keep)
      (first | (go_at_call 33; refine (copyInts_any _ _ _ _ hs1.drew HN.out).mono ?_; rintro e w2 ⟨v2, rfl, ho2, hb2⟩; obtain ⟨A2, c2, rfl, hs2⟩ := ho2.form; have hz2 := hb2.size; have d0 := (b0.drew.below hb2 (by simpa using b0.lt)).cell; have d1 := (b1.drew.below hb2 (by simpa using b1.lt)).cell; have g1 := (b1.drew.below hb2 (by simpa using b1.lt)).frozen))
    go_wp2
    refine bodyPost_ret (v := .tuple #[.agg #[.int .i64 s, .int .i64 (n + 1), .slice A2 g.length c2], .int .i64 n, .bool true]) (by simp [results, Try.results14, go_sem, d1]) rfl ⟨.inl ⟨ht, _, rfl, ?_⟩, ?_⟩
    · exact (((ho2.setCell (by simpa using hzz) _).setCell (by simpa using hzz) _).setCell (by simpa using hzz) _).mono (by simp; omega)
    · exact (((((((Below.refl _ _).alloc (Nat.le_refl _) _).alloc (by simp) _).trans (hb1.mono (by simp; omega))).drew.trans (hb2.mono (by simp; omega))).setCell (by simp) _).setCell (by simp) _).setCell (by simp) _
  all_goals
    try obtain ⟨a1, a2, a3, a4, a5, _, _⟩ := Line.okB_iff.1 hok
    go_enter Try.func14, Try.ntmps14
    go_wp2_with (go_at_call 30; refine (svalidLine_any _ _ _ _ _ _ (((h.alloc (Nat.le_refl _) _).alloc (by simp) _).more (by simp; omega)) HN.out).mono ?_; rintro e w1 ⟨rfl, hb1⟩; obtain ⟨hc1, hf1⟩ := below_cell hb1; have hz := hb1.size)
    simp only [World.size_alloc] at hz
    refine bodyPost_ret (v := .tuple #[.agg #[.int .i64 0, .int .i64 0, .slice none 0 0], .int .i64 (-1), .bool false]) (by simp [results, Try.results14, go_sem, hc1]) rfl ⟨.inr ⟨ht, rfl⟩, ?_⟩
    exact ((((((Below.refl _ _).alloc (Nat.le_refl _) _).alloc (by simp) _).trans (hb1.mono (by simp; omega))).setCell (by simp) _).setCell (by simp) _).setCell (by simp) _

end Go.Proofs.Ytcfijijpcafncac
