/-
  What the model's LeaveLine answers. Condition: the list lies in memory and is at most 2^22 long.
-/
import Derived.Test.YtcfijijpcafncacLineE
import Derived.Test.YtcfijijpcafncacListA
import Derived.Test.YtcfijijpcafncacOwnB
import Derived.Test.YtcfijijpcafncacLineMathC
import Derived.Deep.LoopGhost
namespace Go.Proofs.Ytcfijijpcafncac
open Go.RowKit

/-- A list of the call's own and a block of another type are two. -/
theorem Own.ne {w : World} {base g : Nat} {v : Value} {ys : List Int} {t : TypeId} {cs : Array Value} (h : Own w base v ys) (ha : At w g t cs) (ht : t ≠ 3) : v.ownBlock ≠ some g := by
  rcases h.out.2 with ⟨rfl, _⟩ | ⟨g', cap, cur, rfl, _, hg, _⟩
  · simp [Value.ownBlock]
  · intro e
    have e : g' = g := by simpa [Value.ownBlock] using e
    subst e
    unfold At at ha
    rw [hg] at ha
    injection ha with ha
    injection ha with _ ha
    exact ht ha.symm
theorem Own.far {w : World} {base g i : Nat} {v u : Value} {ys : List Int} {t : TypeId} {cs : Array Value} (h : Own w base v ys) (ha : At w g t cs) (ht : t ≠ 3) : Own (w.setCell ⟨g, i, none⟩ u) base v ys :=
  h.out.kept (grown_set w g i u) (.inr (h.ne ha ht))

theorem Own.formC {w : World} {base : Nat} {v : Value} {ys : List Int} (h : Own w base v ys) : ∃ A c, v = .slice A ys.length c ∧ ys.length ≤ c ∧ Sees w w.heap.size A (ints ys) := by
  obtain ⟨A, c, rfl, h1, _⟩ := own_form h.out
  exact ⟨A, c, rfl, h1, Sees.of_own h.out⟩

theorem Own.drewN {w : World} {base : Nat} {v : Value} {ys : List Int} (h : Own w base v ys) (n : Nat) : Own (w.drewN n) base v ys := h

/-- What LeaveLine answers. -/
def LeaveAns (s n t : Int) (g : List Int) (base : Nat) (e : Ending) (w' : World) : Prop :=
  (Line.leaveB s n g t = true ∧ ∃ v, e = .returned (.tuple #[.agg #[.int .i64 (Line.leaveS s n g t), .int .i64 n, v], .bool true]) ∧ Own w' base v (Line.leaveG s n g t)) ∨
  (Line.leaveB s n g t = false ∧ e = .returned (.tuple #[.agg #[.int .i64 0, .int .i64 0, .slice none 0 0], .bool false]))

set_option maxHeartbeats 1000000 in
theorem sLeaveLine_any (A : Option Addr) (c : Nat) (s n t : Int) (g : List Int) (w : World) (h : Sees w w.heap.size A (ints g)) (hn : g.length ≤ 4194304) :
    Calls Try.prog 23 #[.agg #[.int .i64 s, .int .i64 n, .slice A g.length c], .int .i64 t] w fun e w' => LeaveAns s n t g w.heap.size e w' ∧ Below w.heap.size w w' := by
  have HN := hid hn; clear hn
  have hcase : (Line.okB s n g = true ∧ memB (Line.waits s n g) t = true ∧ Line.leaveB s n g t = true) ∨ (Line.okB s n g = true ∧ memB (Line.waits s n g) t = false ∧ Line.leaveB s n g t = false) ∨ (Line.okB s n g = false ∧ Line.leaveB s n g t = false) := by
    rw [Line.leaveB_memB]
    unfold memB
    rcases Line.okB s n g <;> simp
    rcases Decidable.em (t ∈ Line.waits s n g) with h | h <;> simp [h]
  rcases hcase with ⟨hok, hm, hl⟩ | ⟨hok, hm, hl⟩ | ⟨hok, hl⟩
  · have hokp := hid (Line.okB_iff.1 hok)
    have HL := hid hl
    have HW := hid (Line.waits_len (s := s) (n := n) (g := g) (Line.okB_iff.1 hok).2.2.2.2.1)
    have HG := hid (Line.gone_len hok)
    obtain ⟨i0, hi0, hz0, hz1, hz2⟩ := info_parts intInfo
    go_enter Try.func23, Try.ntmps23
    go_wp2_with fail
    refine (svalidLine_any _ _ _ _ _ _ (((h.alloc (Nat.le_refl _) _).alloc (by simp) _).more (by simp; omega)) HN.out).mono ?_
    rintro e w1 ⟨rfl, hb1⟩
    have hz := hb1.size
    simp only [World.size_alloc] at hz
    obtain ⟨hc1, hf1⟩ := below_cell hb1
    have hs1 : Sees w1 w1.heap.size A (ints g) := ((((h.alloc (Nat.le_refl _) _).alloc (by simp) _).more (by simp; omega)).below hb1).more (by simpa using hz)
    go_wp2_with fail
    refine (waiting_any _ _ _ _ _ _ hs1 hok).mono ?_
    rintro e w2 ⟨v2, rfl, ho2, hb2⟩
    obtain ⟨A2, c2, rfl, hs2⟩ := ho2.form
    clear hc1 hf1
    have hb12 : Below (w.heap.size + 2) ((w.alloc (.cells #[.int .i64 s, .int .i64 n, .slice A g.length c] 27)).alloc (.cells #[.int .i64 0, .int .i64 0, .slice none 0 0] 27)) w2 := (hb1.mono (by simp)).trans (hb2.mono (by omega))
    have hzw := hb12.size
    simp only [World.size_alloc] at hzw
    have b0 : At w2 w.heap.size 27 #[.int .i64 s, .int .i64 n, .slice A g.length c] := ((At.new _ _ _).alloc _).below hb12 (by omega)
    have b1 : At w2 (w.heap.size + 1) 27 #[.int .i64 0, .int .i64 0, .slice none 0 0] := by
      have := (At.new (w.alloc (.cells #[.int .i64 s, .int .i64 n, .slice A g.length c] 27)) 27 #[.int .i64 0, .int .i64 0, .slice none 0 0]).below hb12 (by simp)
      simpa using this
    have hq0 : w.heap.size < w2.heap.size := by omega
    have hq1 : w.heap.size + 1 < w2.heap.size := by omega
    have hq2 : ¬ w.heap.size = w2.heap.size := by omega
    have hq3 : ¬ w.heap.size = w2.heap.size + 1 := by omega
    have y0 : w2.cell? ⟨w.heap.size, 0, none⟩ = some (.int .i64 s) := b0.cell 0
    have y1 : w2.cell? ⟨w.heap.size, 1, none⟩ = some (.int .i64 n) := b0.cell 1
    have y2 : w2.cell? ⟨w.heap.size, 2, none⟩ = some (.slice A g.length c) := b0.cell 2
    obtain ⟨a1, a2, a3, a4, a5, _, _⟩ := hokp.out
    go_wp2_with (go_at_call 37; refine (sisIn_any _ _ _ _ _ hs2 (by have := HW.out; omega)).mono ?_; rintro e w' ⟨rfl, rfl⟩)
    go_loopw [7] (fun i wr => ∃ (k : Nat) (v : Value), s + k ≤ n ∧ i = .int .i64 (s + k) ∧ At wr (w2.heap.size + 1) 27 #[.int .i64 s, .int .i64 n, v] ∧ Own wr w2.heap.size v (Line.fil s (s + k) g t) ∧ Below w2.heap.size w2 wr) (fun i _ => (n - intOf i).toNat)
    case atStart =>
      refine ⟨0, _, by omega, by simp, by simpa using At.new (w2.alloc (.cells #[] 3)) 27 #[.int .i64 s, .int .i64 n, .slice (some ⟨w2.heap.size, 0, none⟩) 0 0], ?_, ((Below.refl _ _).alloc (Nat.le_refl _) _).alloc (by simp) _⟩
      rw [Line.fil_none (by omega)]
      exact (Own.made w2 w2.heap.size (Nat.le_refl _)).below ((Below.refl _ _).alloc (Nat.le_refl _) _)
    case round =>
      obtain ⟨k, v, hk, rfl, hat, ho, hb⟩ := hrel
      have hzr := hb.size
      have z0 : wr.cell? ⟨w.heap.size, 0, none⟩ = some (.int .i64 s) := (hb.cell (p := ⟨w.heap.size, 0, none⟩) hq0).trans y0
      have z1 : wr.cell? ⟨w.heap.size, 1, none⟩ = some (.int .i64 n) := (hb.cell (p := ⟨w.heap.size, 1, none⟩) hq0).trans y1
      have z2 : wr.cell? ⟨w.heap.size, 2, none⟩ = some (.slice A g.length c) := (hb.cell (p := ⟨w.heap.size, 2, none⟩) hq0).trans y2
      by_cases hlt : s + (k : Int) < n
      · have hs : Sees wr w.heap.size A (ints g) := (((h.alloc (Nat.le_refl _) _).alloc (by simp) _).on hb12 (by omega)).on hb (by omega)
        have o2 : wr.cell? ⟨w2.heap.size + 1, 2, none⟩ = some v := hat.cell 2
        have HF := hid (Line.fil_len (s := s) (m := s + k) (g := g) (t := t) (by omega))
        rcases hin : (s + (k : Int) == t || memB g (s + k)) with _ | _
        · have hin' := Bool.or_eq_false_iff.1 hin
          obtain ⟨e1, e2⟩ := hin'
          have HM := hid (show ¬ (s + (k : Int) = t ∨ s + (k : Int) ∈ g) from fun hh => hh.elim (fun e => by rw [beq_eq_false_iff_ne] at e1; exact e1 e) (fun e => by rw [memB_iff.2 e] at e2; cases e2))
          clear hin
          go_wp2_with (go_at_call 37; refine (sisIn_any _ _ _ _ _ hs (by have := HG.out; omega)).mono ?_; rintro e w' ⟨rfl, rfl⟩)
          go_roundw
          case rel =>
            refine ⟨k + 1, v, by omega, by simp; omega, hat, ?_, hb⟩
            rw [show s + ((k + 1 : Nat) : Int) = s + k + 1 by omega, Line.fil_succ (by omega), if_neg HM.out, List.append_nil]
            exact ho
          case measure => simp [intOf]; omega
        · have HM := hid (show s + (k : Int) = t ∨ s + (k : Int) ∈ g from (Bool.or_eq_true_iff.1 hin).elim (fun e => .inl (by simpa using e)) (fun e => .inr (memB_iff.1 e)))
          have hne := ho.ne hat (by decide)
          have hcs : (s + (k : Int) == t) = true ∨ ((s + (k : Int) == t) = false ∧ memB g (s + k) = true) := by
            cases e : (s + (k : Int) == t)
            · rw [e] at hin; exact .inr ⟨rfl, by simpa using hin⟩
            · exact .inl rfl
          clear hin
          rcases hcs with e1 | ⟨e1, e2⟩
          all_goals
            go_wp2_with (first | (go_at_call 37; refine (sisIn_any _ _ _ _ _ hs (by have := HG.out; omega)).mono ?_; rintro e w' ⟨rfl, rfl⟩) | (at_builtin; refine wpList_append_own _ rfl _ _ 22 rfl w2.heap.size 3 i0 (.int .i64 0) 1 8 Try.underlying22 hi0 hz0 hz1 hz2 rfl (by decide) _ _ _ rfl (ho.out.alloc _) ⟨wr.heap.size, 0, none⟩ 1 1 [.int .i64 (s + k)] rfl rfl (cell_one_new _ _ _) ?d2 ?d3 ?d4 ?d5 ?_))
            case d2 => simp [Value.oneCell']
            case d3 => have := HF.out; unfold maxLen; omega
            case d4 => have := HF.out; omega
            case d5 => simp; omega
            case _ =>
              intro v1 w3 h1 hg1 _
              have hat3 := (hat.alloc (.cells #[.int .i64 (s + k)] 3)).grown hg1 (fun e => hne e.symm)
              obtain ⟨ho1, hb1'⟩ := ho.snoc hb (Nat.le_refl _) h1 hg1
              clear h1 hg1 hne
              obtain ⟨A3, c3, rfl, _⟩ := ho1.form
              have p2 : w3.cell? ⟨w2.heap.size + 1, 2, none⟩ = some v := hat3.cell 2
              have p3 := hat3.frozen 2
              go_wp2
              go_roundw
              case rel =>
                refine ⟨k + 1, _, by omega, by simp; omega, by simpa using hat3.set 2 _, ?_, hb1'.setCell (by simp) _⟩
                rw [show s + ((k + 1 : Nat) : Int) = s + k + 1 by omega, Line.fil_succ (by omega), if_pos HM.out]
                simpa using ho1.far hat3 (by decide)
              case measure => simp [intOf]; omega
      · go_wp2
        obtain ⟨L, hL⟩ : ∃ L, L = Line.ins g t := ⟨_, rfl⟩
        have ho' : Own wr w2.heap.size v (Line.from_ (Line.ins g t) s) := by
          rw [Line.mid_all HL.out, ← Line.fil_ins HL.out, show n = s + k by omega]; exact ho
        clear ho hL
        go_loopg [48] (n - s).toNat (fun K _ wr => ∃ (S : Int) (v : Value), K = (n - S).toNat ∧ Line.Mid s n g t S ∧ At wr (w2.heap.size + 1) 27 #[.int .i64 S, .int .i64 n, v] ∧ Own wr w2.heap.size v (Line.from_ (Line.ins g t) S) ∧ Below w2.heap.size w2 wr)
        case atStart => exact ⟨s, v, rfl, Line.Mid.start HL.out, hat, ho', hb⟩
        case round =>
          obtain ⟨S, v, hK, hmid, hat, ho, hb⟩ := hrel
          have HK := hid hK
          clear hK
          have HMid := hid hmid
          have hmS : s ≤ S ∧ S ≤ n := ⟨hmid.1, hmid.2.1⟩
          obtain ⟨hS1, hS2⟩ := hmS
          clear hmid
          have hzr := hb.size
          have o0 : wr.cell? ⟨w2.heap.size + 1, 0, none⟩ = some (.int .i64 S) := hat.cell 0
          have o1 : wr.cell? ⟨w2.heap.size + 1, 1, none⟩ = some (.int .i64 n) := hat.cell 1
          have of := hat.frozen
          have HLn := hid (Line.mid_len (S := S) HL.out)
          obtain ⟨L, hLe⟩ : ∃ L, L = Line.from_ (Line.ins g t) S := ⟨_, rfl⟩
          rw [← hLe] at ho HLn
          have HLe := hid hLe
          clear hLe
          obtain ⟨A3, c3, rfl, hc3, hs3⟩ := ho.formC
          have o2 : wr.cell? ⟨w2.heap.size + 1, 2, none⟩ = some (.slice A3 L.length c3) := hat.cell 2
          have b1r : At wr (w.heap.size + 1) 27 #[.int .i64 0, .int .i64 0, .slice none 0 0] := b1.below hb hq1
          have r0 := b1r.cell
          have rf := b1r.frozen
          cases L with
          | nil =>
            have hg0 : decide (0 < (([] : List Int).length : Int)) = false := rfl
            go_wp2
            go_quiet (fail)
            go_wp2
            obtain ⟨eS, eG⟩ := Line.mid_stop HL.out HMid.out (fun l e => by rw [← HLe.out] at e; cases e)
            refine bodyPost_ret (v := .tuple #[.agg #[.int .i64 S, .int .i64 n, .slice A3 0 c3], .bool true]) (by simp [results, Try.results23, go_sem, r0]) rfl ⟨.inl ⟨HL.out, _, by rw [eS], ?_⟩, ?_⟩
            · rw [eG, ← HLe.out]
              exact ((((ho.drewN _).setCell (by simpa using hq1) _).setCell (by simpa using hq1) _).setCell (by simpa using hq1) _).mono (by omega)
            · exact ((((below_drewN (((((Below.refl _ _).alloc (Nat.le_refl _) _).alloc (by simp) _).trans (hb12.mono (by omega))).trans (hb.mono (by omega))) _).setCell (by simp) _).setCell (by simp) _).setCell (by simp) _)
          | cons a l =>
            obtain ⟨b3, o3, e3, _, hc0⟩ := hs3.int (k := 0) (by simp)
            subst e3
            simp only [Nat.add_zero, List.getElem_cons_zero, List.length_cons] at hc0 hc3
            have hg0 : decide ((0 : Int) < (((l.length + 1 : Nat)) : Int)) = true := decide_eq_true (by omega)
            have hg1 : (0 : Int) < (((l.length + 1 : Nat)) : Int) := by omega
            by_cases ha : a = S
            · subst ha
              obtain ⟨hm2, hl2⟩ := Line.mid_step HL.out HMid.out HLe.out.symm
              have HM2 := hid hm2
              have HL2 := hid hl2
              clear hm2 hl2
              have hll := hid (show l.length ≤ 12 by have := HLn.out; simp at this; omega)
              have han : a < n := by have := HM2.out.2.1; omega
              by_cases hc1 : c3 = 1
              · subst hc1
                have hl0 : l = [] := List.eq_nil_of_length_eq_zero (by omega)
                subst hl0
                go_wp2
                go_quiet (fail)
                go_wp2_with fail
                have ho4 : Own ((wr.drewN nq).setCell ⟨w2.heap.size + 1, 0, none⟩ (.int .i64 (a + 1))) w2.heap.size (.slice (some ⟨b3, o3, none⟩) 1 1) [a] := Own.far (Own.drewN ho nq) (At.drewN hat nq) (by decide)
                have hat4 : At ((wr.drewN nq).setCell ⟨w2.heap.size + 1, 0, none⟩ (.int .i64 (a + 1))) (w2.heap.size + 1) 27 #[.int .i64 (a + 1), .int .i64 n, .slice (some ⟨b3, o3, none⟩) 1 1] := by simpa using (At.drewN hat nq).set 0 (.int .i64 (a + 1))
                have hb4 : Below w2.heap.size w2 ((wr.drewN nq).setCell ⟨w2.heap.size + 1, 0, none⟩ (.int .i64 (a + 1))) := (below_drewN hb nq).setCell (by simp) _
                have hs4 := Sees.of_own ho4.out
                have hs5 : Sees ((wr.drewN nq).setCell ⟨w2.heap.size + 1, 0, none⟩ (.int .i64 (a + 1))) ((wr.drewN nq).setCell ⟨w2.heap.size + 1, 0, none⟩ (.int .i64 (a + 1))).heap.size (some ⟨b3, o3, none⟩) (ints []) := Sees.nil
                refine (copyInts_any _ _ [] _ hs5 (by have := hll.out; omega)).mono ?_
                rintro e w5 ⟨v5, rfl, ho5, hb5⟩
                have hl4 := hat4.lt
                have hat5 := hat4.below hb5 hl4
                obtain ⟨A5, c5, rfl, _⟩ := ho5.form
                have u2 : w5.cell? ⟨w2.heap.size + 1, 2, none⟩ = some (.slice (some ⟨b3, o3, none⟩) 1 1) := hat5.cell 2
                have u3 := hat5.frozen 2
                go_wp2
                go_roundg (n - (a + 1)).toNat
                case measure => have := HK.out; omega
                case rel =>
                  have hz4 := hb4.size
                  refine ⟨a + 1, _, rfl, HM2.out, by simpa using hat5.set 2 _, ?_, (hb4.trans (hb5.mono hz4)).setCell (by simp) _⟩
                  rw [HL2.out]
                  simpa using (ho5.mono hz4).far hat5 (by decide)
              · have hc2 : ¬ (c3 : Int) = 1 := by omega
                go_wp2
                go_quiet (fail)
                go_wp2_with fail
                have ho4 : Own ((wr.drewN nq).setCell ⟨w2.heap.size + 1, 0, none⟩ (.int .i64 (a + 1))) w2.heap.size (.slice (some ⟨b3, o3, none⟩) (l.length + 1) c3) (a :: l) := Own.far (Own.drewN ho nq) (At.drewN hat nq) (by decide)
                have hat4 : At ((wr.drewN nq).setCell ⟨w2.heap.size + 1, 0, none⟩ (.int .i64 (a + 1))) (w2.heap.size + 1) 27 #[.int .i64 (a + 1), .int .i64 n, .slice (some ⟨b3, o3, none⟩) (l.length + 1) c3] := by simpa using (At.drewN hat nq).set 0 (.int .i64 (a + 1))
                have hb4 : Below w2.heap.size w2 ((wr.drewN nq).setCell ⟨w2.heap.size + 1, 0, none⟩ (.int .i64 (a + 1))) := (below_drewN hb nq).setCell (by simp) _
                have hs4 := Sees.of_own ho4.out
                have hs5 := hs4.drop (k := 1) rfl
                simp only [ints, List.map_cons, List.drop_succ_cons, List.drop_zero] at hs5
                refine (copyInts_any _ _ l _ hs5 (by have := hll.out; omega)).mono ?_
                rintro e w5 ⟨v5, rfl, ho5, hb5⟩
                have hl4 := hat4.lt
                have hat5 := hat4.below hb5 hl4
                obtain ⟨A5, c5, rfl, _⟩ := ho5.form
                have u2 : w5.cell? ⟨w2.heap.size + 1, 2, none⟩ = some (.slice (some ⟨b3, o3, none⟩) (l.length + 1) c3) := hat5.cell 2
                have u3 := hat5.frozen 2
                go_wp2
                go_roundg (n - (a + 1)).toNat
                case measure => have := HK.out; omega
                case rel =>
                  have hz4 := hb4.size
                  refine ⟨a + 1, _, rfl, HM2.out, by simpa using hat5.set 2 _, ?_, (hb4.trans (hb5.mono hz4)).setCell (by simp) _⟩
                  rw [HL2.out]
                  simpa using (ho5.mono hz4).far hat5 (by decide)
            · have haS : (a == S) = false := by simpa using ha
              obtain ⟨eS, eG⟩ := Line.mid_stop HL.out HMid.out (fun l' e => by rw [← HLe.out] at e; injection e with e; exact ha e)
              have EE := hid eS
              have EG := hid eG
              clear eS eG
              go_wp2
              go_quiet (fail)
              go_wp2
              have eS := EE.out
              have eG := EG.out
              refine bodyPost_ret (v := .tuple #[.agg #[.int .i64 S, .int .i64 n, .slice (some ⟨b3, o3, none⟩) (l.length + 1) c3], .bool true]) (by simp [results, Try.results23, go_sem, r0]) rfl ⟨.inl ⟨HL.out, _, by rw [eS], ?_⟩, ?_⟩
              · rw [eG, ← HLe.out]
                exact ((((ho.drewN _).setCell (by simpa using hq1) _).setCell (by simpa using hq1) _).setCell (by simpa using hq1) _).mono (by omega)
              · exact ((((below_drewN (((((Below.refl _ _).alloc (Nat.le_refl _) _).alloc (by simp) _).trans (hb12.mono (by omega))).trans (hb.mono (by omega))) _).setCell (by simp) _).setCell (by simp) _).setCell (by simp) _)
  · have HW := hid (Line.waits_len (s := s) (n := n) (g := g) (Line.okB_iff.1 hok).2.2.2.2.1)
    go_enter Try.func23, Try.ntmps23
    go_wp2_with fail
    refine (svalidLine_any _ _ _ _ _ _ (((h.alloc (Nat.le_refl _) _).alloc (by simp) _).more (by simp; omega)) HN.out).mono ?_
    rintro e w1 ⟨rfl, hb1⟩
    have hz := hb1.size
    simp only [World.size_alloc] at hz
    obtain ⟨hc1, hf1⟩ := below_cell hb1
    have hs1 : Sees w1 w1.heap.size A (ints g) := ((((h.alloc (Nat.le_refl _) _).alloc (by simp) _).more (by simp; omega)).below hb1).more (by simpa using hz)
    go_wp2_with fail
    refine (waiting_any _ _ _ _ _ _ hs1 hok).mono ?_
    rintro e w2 ⟨v2, rfl, ho2, hb2⟩
    obtain ⟨A2, c2, rfl, hs2⟩ := ho2.form
    have b1 : At w2 (w.heap.size + 1) 27 #[.int .i64 0, .int .i64 0, .slice none 0 0] := by
      have := ((At.new (w.alloc (.cells #[.int .i64 s, .int .i64 n, .slice A g.length c] 27)) 27 #[.int .i64 0, .int .i64 0, .slice none 0 0]).below hb1 (by simp)).below hb2 (by simp; omega)
      simpa using this
    clear hc1 hf1
    have c1 := b1.cell
    have f1 := b1.frozen
    go_wp2_with (go_at_call 37; refine (sisIn_any _ _ _ _ _ hs2 (by have := HW.out; omega)).mono ?_; rintro e w' ⟨rfl, rfl⟩)
    refine bodyPost_ret (v := .tuple #[.agg #[.int .i64 0, .int .i64 0, .slice none 0 0], .bool false]) (by simp [results, Try.results23, go_sem, c1]) rfl ⟨.inr ⟨hl, rfl⟩, ?_⟩
    exact (((((((Below.refl _ _).alloc (Nat.le_refl _) _).alloc (by simp) _).trans (hb1.mono (by simp; omega))).trans (hb2.mono (by omega))).setCell (by simp) _).setCell (by simp) _).setCell (by simp) _
  · go_enter Try.func23, Try.ntmps23
    go_wp2_with (go_at_call 30; refine (svalidLine_any _ _ _ _ _ _ (((h.alloc (Nat.le_refl _) _).alloc (by simp) _).more (by simp; omega)) HN.out).mono ?_; rintro e w1 ⟨rfl, hb1⟩; obtain ⟨hc1, hf1⟩ := below_cell hb1; have hz := hb1.size)
    simp only [World.size_alloc] at hz
    refine bodyPost_ret (v := .tuple #[.agg #[.int .i64 0, .int .i64 0, .slice none 0 0], .bool false]) (by simp [results, Try.results23, go_sem, hc1]) rfl ⟨.inr ⟨hl, rfl⟩, ?_⟩
    exact ((((((Below.refl _ _).alloc (Nat.le_refl _) _).alloc (by simp) _).trans (hb1.mono (by simp; omega))).setCell (by simp) _).setCell (by simp) _).setCell (by simp) _

end Go.Proofs.Ytcfijijpcafncac
