/-
  What the program's LeaveLine answers. Condition: the list lies in memory and is at most 2^22 long.
-/
import Derived.Test.YtcfijijpcafncacLineH
import Derived.Test.YtcfijijpcafncacListB
import Derived.Deep.RegionHeld3
namespace Go.Proofs.Ytcfijijpcafncac
open Go.RowKit

theorem placeV_neg {s n t : Int} {g : List Int} : (Line.placeV s n g t == -1) = !Line.leaveB s n g t := by
  have key : Line.placeV s n g t = -1 ↔ ¬ Line.leaveB s n g t = true := by
    unfold Line.placeV
    rw [Line.place_neg]
    unfold Line.leaveB
    rcases hok : Line.okB s n g with _ | _
    · rw [Line.waitV_no hok]; simp
    · rw [Line.waitV_yes hok]; simp
  rcases hb : Line.leaveB s n g t with _ | _
  · simpa using key.2 (by rw [hb]; simp)
  · have : ¬ Line.placeV s n g t = -1 := fun e => key.1 e hb
    simpa using this

theorem Line.mid_go {s n t S : Int} {g : List Int} (hm : Line.Mid s n g t S) (h1 : S < n) (h2 : S ∈ Line.ins g t) : Line.Mid s n g t (S + 1) :=
  ⟨by have := hm.1; omega, by omega, (Line.front_step h1 h2).trans hm.2.2⟩
theorem Line.mid_end {s n t S : Int} {g : List Int} (hm : Line.Mid s n g t S) (h1 : ¬ (S < n ∧ S ∈ Line.ins g t)) : Line.leaveS s n g t = S := by
  rw [← hm.2.2]; exact Line.front_stay h1
theorem Line.ins_len {g : List Int} {t : Int} : (Line.ins g t).length ≤ 2 * g.length + 1 := by
  unfold Line.ins
  have h1 := List.length_filter_le (fun x => decide (x < t)) g
  have h2 := List.length_filter_le (fun x => decide (t < x)) g
  simp only [List.length_append, List.length_cons, List.length_nil]
  omega
theorem place_memB {l : List Int} {x : Int} : (Line.place l x == -1) = !memB l x := by
  rcases hm : memB l x with _ | _
  · have : x ∉ l := fun h => by rw [memB_iff.2 h] at hm; cases hm
    simp [Line.place_neg.2 this]
  · have : ¬ Line.place l x = -1 := fun e => Line.place_neg.1 e (memB_iff.1 hm)
    simpa using this

set_option maxHeartbeats 1000000 in
theorem iLeaveLine_any (A : Option Addr) (c : Nat) (s n t : Int) (g : List Int) (w : World) (h : Sees w w.heap.size A (ints g)) (hn : g.length ≤ 4194304) :
    Calls Try.prog 24 #[.agg #[.int .i64 s, .int .i64 n, .slice A g.length c], .int .i64 t] w fun e w' => LeaveAns s n t g w.heap.size e w' ∧ Below w.heap.size w w' := by
  have HN := hid hn; clear hn
  rcases hb : Line.leaveB s n g t with _ | _
  · have hp : (Line.placeV s n g t == -1) = true := by rw [placeV_neg, hb]; rfl
    go_enter Try.func24, Try.ntmps24
    go_wp2_with (go_at_call 28; refine (iPlaceInLine_any _ _ _ _ _ _ _ (((h.alloc (Nat.le_refl _) _).alloc (by simp) _).more (by simp; omega)) HN.out).mono ?_; rintro e w1 ⟨rfl, hb1⟩; obtain ⟨hc1, hf1⟩ := below_cell hb1; have hz := hb1.size)
    simp only [World.size_alloc] at hz
    refine bodyPost_ret (v := .tuple #[.agg #[.int .i64 0, .int .i64 0, .slice none 0 0], .bool false]) (by simp [results, Try.results24, go_sem, hc1]) rfl ⟨.inr ⟨hb, rfl⟩, ?_⟩
    exact ((((((Below.refl _ _).alloc (Nat.le_refl _) _).alloc (by simp) _).trans (hb1.mono (by simp; omega))).setCell (by simp) _).setCell (by simp) _).setCell (by simp) _
  · have hp : (Line.placeV s n g t == -1) = false := by rw [placeV_neg, hb]; rfl
    obtain ⟨p1, p2, p3, p4⟩ := Line.leave_parts hb
    obtain ⟨a1, a2, a3, a4, a5, _, _⟩ := Line.okB_iff.1 p1
    have HB := hid hb
    go_enter Try.func24, Try.ntmps24
    go_wp2_with fail
    refine (iPlaceInLine_any _ _ _ _ _ _ _ (((h.alloc (Nat.le_refl _) _).alloc (by simp) _).more (by simp; omega)) HN.out).mono ?_
    rintro e w1 ⟨rfl, hb1⟩
    have hz := hb1.size
    have hs1 : Sees w1 w1.heap.size A (ints g) := ((((h.alloc (Nat.le_refl _) _).alloc (by simp) _).more (by simp; omega)).below hb1).more (by simpa using hz)
    have hzz : w.heap.size + 1 < w1.heap.size := by simp only [World.size_alloc] at hz; omega
    have b0 : At w1 w.heap.size 27 #[.int .i64 s, .int .i64 n, .slice A g.length c] := ((At.new _ _ _).alloc _).below hb1 (by simp; omega)
    have b1 : At w1 (w.heap.size + 1) 27 #[.int .i64 0, .int .i64 0, .slice none 0 0] := by
      have := (At.new (w.alloc (.cells #[.int .i64 s, .int .i64 n, .slice A g.length c] 27)) 27 #[.int .i64 0, .int .i64 0, .slice none 0 0]).below hb1 (by simp)
      simpa using this
    have k0 : w1.cell? ⟨w.heap.size, 0, none⟩ = some (.int .i64 s) := b0.cell 0
    have k1 : w1.cell? ⟨w.heap.size, 1, none⟩ = some (.int .i64 n) := b0.cell 1
    have k2 : w1.cell? ⟨w.heap.size, 2, none⟩ = some (.slice A g.length c) := b0.cell 2
    go_wp2_with fail
    refine (insertNumber_any _ _ _ _ _ hs1 HN.out).mono ?_
    rintro e w2 ⟨v2, rfl, ho2, hb2⟩
    obtain ⟨A2, c2, rfl, hs2⟩ := ho2.form
    have hz2 := hb2.size
    have e0 := b0.below hb2 (by omega)
    have e1 := b1.below hb2 (by omega)
    clear k0 k1 k2
    have k0 : w2.cell? ⟨w.heap.size, 0, none⟩ = some (.int .i64 s) := e0.cell 0
    have k1 : w2.cell? ⟨w.heap.size, 1, none⟩ = some (.int .i64 n) := e0.cell 1
    have HI := hid (Nat.le_trans (Line.ins_len (g := g) (t := t)) (show 2 * g.length + 1 ≤ 25 by have := Line.gone_len p1; omega))
    obtain ⟨L, hL⟩ : ∃ L, L = Line.ins g t := ⟨_, rfl⟩
    rw [← hL] at hs2 HI ho2
    have HL := hid hL
    rw [← hL]
    clear hL
    go_wp2
    go_loopw [7] (fun i wr => ∃ S : Int, i = .int .i64 S ∧ Line.Mid s n g t S ∧ Below w2.heap.size w2 wr) (fun i _ => (n - intOf i).toNat)
    case atStart => exact ⟨s, rfl, Line.Mid.start HB.out, Below.refl _ _⟩
    case round =>
      obtain ⟨S, rfl, hmid, hb⟩ := hrel
      have HM := hid hmid
      obtain ⟨m1, m2, _⟩ := hmid
      clear k0 k1
      have hzr := hb.size
      have k1 : wr.cell? ⟨w.heap.size, 1, none⟩ = some (.int .i64 n) := (hb.cell (p := ⟨w.heap.size, 1, none⟩) (by simp; omega)).trans (e0.cell 1)
      have hs3 : Sees wr wr.heap.size A2 (ints L) := (hs2.below hb).more hzr
      by_cases hlt : S < n
      · rcases hm : (Line.place L S == -1) with _ | _
        · go_wp2_with (go_at_call 36; refine (placeOf_any _ _ _ _ _ hs3 (by have := HI.out; omega)).mono ?_; rintro e w' ⟨rfl, rfl⟩)
          go_roundw
          case rel =>
            rw [place_memB] at hm
            exact ⟨S + 1, by go_num, Line.mid_go HM.out hlt (by rw [← HL.out]; exact memB_iff.1 (by simpa using hm)), hb⟩
          case measure => simp [intOf]; omega
        · have hend : Line.leaveS s n g t = S := Line.mid_end HM.out (by rintro ⟨_, hin⟩; rw [place_memB, memB_iff.2 (by rw [HL.out]; exact hin)] at hm; cases hm)
          have HE := hid hend
          clear hend
          have hsz : w.heap.size + 1 < wr.heap.size := by omega
          have f0 := e0.below hb (by omega)
          have f1 := e1.below hb (by omega)
          go_wp2_with (go_at_call 36; refine (placeOf_any _ _ _ _ _ hs3 (by have := HI.out; omega)).mono ?_; rintro e w' ⟨rfl, rfl⟩)
          go_region_held3 (fun w' => w'.cell? ⟨w.heap.size, 1, none⟩ = some (.int .i64 n))
            (first | exact k1 | exact d0 1 | go_keep)
            (first | (go_at_call 34; refine (numbersFrom_any _ _ _ _ _ hs3.drew (by have := HI.out; omega)).mono ?_; rintro e w4 ⟨v4, rfl, ho4, hb4⟩; obtain ⟨A4, c4, rfl, hs4⟩ := ho4.form; have hz4 := hb4.size; have d0 := (f0.drew.below hb4 (by simpa using f0.lt)).cell; have d1 := (f1.drew.below hb4 (by simpa using f1.lt)).cell; have g1 := (f1.drew.below hb4 (by simpa using f1.lt)).frozen))
          go_wp2
          refine bodyPost_ret (v := .tuple #[.agg #[.int .i64 S, .int .i64 n, .slice A4 (Line.from_ L S).length c4], .bool true]) (by simp [results, Try.results24, go_sem, d1]) rfl ⟨.inl ⟨HB.out, _, by rw [HE.out], ?_⟩, ?_⟩
          · rw [Line.leaveG, HE.out, ← HL.out]
            exact (((ho4.setCell (by simpa using hsz) _).setCell (by simpa using hsz) _).setCell (by simpa using hsz) _).mono (by simp; omega)
          · exact (((((((((Below.refl _ _).alloc (Nat.le_refl _) _).alloc (by simp) _).trans (hb1.mono (by simp; omega))).trans (hb2.mono (by omega))).trans (hb.mono (by omega))).drew.trans (hb4.mono (by simp; omega))).setCell (by simp) _).setCell (by simp) _).setCell (by simp) _
      · have hend : Line.leaveS s n g t = S := Line.mid_end HM.out (fun hh => hlt hh.1)
        have HE := hid hend
        clear hend
        have hsz : w.heap.size + 1 < wr.heap.size := by omega
        have f0 := e0.below hb (by omega)
        have f1 := e1.below hb (by omega)
        go_wp2
        go_region_held3 (fun w' => w'.cell? ⟨w.heap.size, 1, none⟩ = some (.int .i64 n))
          (first | exact k1 | exact d0 1 | go_keep)
          (first | (go_at_call 34; refine (numbersFrom_any _ _ _ _ _ hs3.drew (by have := HI.out; omega)).mono ?_; rintro e w4 ⟨v4, rfl, ho4, hb4⟩; obtain ⟨A4, c4, rfl, hs4⟩ := ho4.form; have hz4 := hb4.size; have d0 := (f0.drew.below hb4 (by simpa using f0.lt)).cell; have d1 := (f1.drew.below hb4 (by simpa using f1.lt)).cell; have g1 := (f1.drew.below hb4 (by simpa using f1.lt)).frozen))
        go_wp2
        refine bodyPost_ret (v := .tuple #[.agg #[.int .i64 S, .int .i64 n, .slice A4 (Line.from_ L S).length c4], .bool true]) (by simp [results, Try.results24, go_sem, d1]) rfl ⟨.inl ⟨HB.out, _, by rw [HE.out], ?_⟩, ?_⟩
        · rw [Line.leaveG, HE.out, ← HL.out]
          exact (((ho4.setCell (by simpa using hsz) _).setCell (by simpa using hsz) _).setCell (by simpa using hsz) _).mono (by simp; omega)
        · exact (((((((((Below.refl _ _).alloc (Nat.le_refl _) _).alloc (by simp) _).trans (hb1.mono (by simp; omega))).trans (hb2.mono (by omega))).trans (hb.mono (by omega))).drew.trans (hb4.mono (by simp; omega))).setCell (by simp) _).setCell (by simp) _).setCell (by simp) _

end Go.Proofs.Ytcfijijpcafncac
