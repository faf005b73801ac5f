/-
  What the model's CallNext answers. Condition: the list lies in memory and is at most 2^22 long.
-/
import Derived.Test.YtcfijijpcafncacLineG
import Derived.Test.YtcfijijpcafncacLineH
import Derived.Test.YtcfijijpcafncacListB
import Derived.Deep.AppendLies
import Derived.Deep.RegionLaw
namespace Go.Proofs.Ytcfijijpcafncac
open Go.RowKit

theorem callG_filter {s n : Int} {g : List Int} : Line.callG s n g = g.filter (fun x => decide (Line.callT s n g < x)) := by
  unfold Line.callG Line.from_
  apply List.filter_congr
  intro x _
  rw [decide_eq_decide]
  omega

set_option maxHeartbeats 1000000 in
theorem sCallNext_any (A : Option Addr) (c : Nat) (s n : Int) (g : List Int) (w : World) (h : Sees w w.heap.size A (ints g)) (hn : g.length ≤ 4194304) :
    Calls Try.prog 25 #[.agg #[.int .i64 s, .int .i64 n, .slice A g.length c]] w fun e w' => CallAns s n g w.heap.size e w' ∧ Below w.heap.size w w' := by
  have HN := hid hn; clear hn
  have hp2 : Sees ((w.alloc (.cells #[.int .i64 s, .int .i64 n, .slice A g.length c] 27)).alloc (.cells #[.int .i64 0, .int .i64 0, .slice none 0 0] 27)) ((w.alloc (.cells #[.int .i64 s, .int .i64 n, .slice A g.length c] 27)).alloc (.cells #[.int .i64 0, .int .i64 0, .slice none 0 0] 27)).heap.size A (ints g) := ((h.alloc (Nat.le_refl _) _).alloc (by simp) _).more (by simp; omega)
  rcases hb : Line.callB s n g with _ | _
  · rcases hok : Line.okB s n g with _ | _
    · go_enter Try.func25, Try.ntmps25
      go_wp2_with (go_at_call 30; refine (svalidLine_any _ _ _ _ _ _ hp2 HN.out).mono ?_; rintro e w1 ⟨rfl, hb1⟩; obtain ⟨hc1, hf1⟩ := below_cell hb1; have hz := hb1.size)
      simp only [World.size_alloc] at hz
      refine bodyPost_ret (v := .tuple #[.agg #[.int .i64 0, .int .i64 0, .slice none 0 0], .int .i64 (-1), .bool false]) (by simp [results, Try.results25, go_sem, hc1]) rfl ⟨.inr ⟨hb, rfl⟩, ?_⟩
      exact ((((((Below.refl _ _).alloc (Nat.le_refl _) _).alloc (by simp) _).trans (hb1.mono (by simp; omega))).setCell (by simp) _).setCell (by simp) _).setCell (by simp) _
    · have hw0 : Line.waits s n g = [] := (Line.call_none hok).1 hb
      go_enter Try.func25, Try.ntmps25
      go_wp2_with fail
      refine (svalidLine_any _ _ _ _ _ _ hp2 HN.out).mono ?_
      rintro e w1 ⟨rfl, hb1⟩
      obtain ⟨hc1, hf1⟩ := below_cell hb1
      have hz := hb1.size
      simp only [World.size_alloc] at hz
      go_wp2_with fail
      refine (waiting_any _ _ _ _ _ _ ((hp2.below hb1).more hb1.size) hok).mono ?_
      rintro e w2 ⟨v2, rfl, ho2, hb2⟩
      rw [hw0] at ho2
      obtain ⟨A2, c2, rfl, hs2⟩ := ho2.form
      have b1 : At w2 (w.heap.size + 1) 27 #[.int .i64 0, .int .i64 0, .slice none 0 0] := by
        have := ((At.new (w.alloc (.cells #[.int .i64 s, .int .i64 n, .slice A g.length c] 27)) 27 #[.int .i64 0, .int .i64 0, .slice none 0 0]).below hb1 (by simp)).below hb2 (by simp; omega)
        simpa using this
      clear hc1 hf1
      have d1 := b1.cell
      have g1 := b1.frozen
      go_wp2
      refine bodyPost_ret (v := .tuple #[.agg #[.int .i64 0, .int .i64 0, .slice none 0 0], .int .i64 (-1), .bool false]) (by simp [results, Try.results25, go_sem, d1]) rfl ⟨.inr ⟨hb, rfl⟩, ?_⟩
      exact (((((((Below.refl _ _).alloc (Nat.le_refl _) _).alloc (by simp) _).trans (hb1.mono (by simp; omega))).trans (hb2.mono (by omega))).setCell (by simp) _).setCell (by simp) _).setCell (by simp) _
  · obtain ⟨hok, tl, hwl⟩ := Line.call_parts hb
    obtain ⟨a1, a2, a3, a4, a5, _, _⟩ := Line.okB_iff.1 hok
    obtain ⟨m1, m2, _⟩ := Line.callT_mem hb
    have HB := hid hb
    have HG := hid (Line.gone_len hok)
    have HW := hid (Line.waits_len (s := s) (n := n) (g := g) a5)
    obtain ⟨T, hT⟩ : ∃ T, T = Line.callT s n g := ⟨_, rfl⟩
    rw [← hT] at hwl m1 m2
    have HT := hid hT
    clear hT
    have hlen : 0 < (Line.waits s n g).length := by rw [hwl]; simp
    have hlen' : (0 : Int) < ((Line.waits s n g).length : Int) := by omega
    have hne : (((Line.waits s n g).length : Int) == 0) = false := by rw [beq_eq_false_iff_ne]; omega
    have hh0 : (Line.waits s n g)[0] = T := by simp only [hwl, List.getElem_cons_zero]
    have HH := hid hh0
    clear hwl hh0
    obtain ⟨F, hF⟩ : ∃ F : Int → Bool, F = fun x => decide (T < x) := ⟨_, rfl⟩
    have HF := hid hF
    clear hF
    obtain ⟨i0, hi0, hj0, hj1, hj2⟩ := info_parts intInfo
    go_enter Try.func25, Try.ntmps25
    go_wp2_with fail
    refine (svalidLine_any _ _ _ _ _ _ hp2 HN.out).mono ?_
    rintro e w1 ⟨rfl, hb1⟩
    obtain ⟨hc1, hf1⟩ := below_cell hb1
    have hz := hb1.size
    simp only [World.size_alloc] at hz
    have hs1 := (hp2.below hb1).more hb1.size
    go_wp2_with fail
    refine (waiting_any _ _ _ _ _ _ hs1 hok).mono ?_
    rintro e w2 ⟨v2, rfl, ho2, hb2⟩
    obtain ⟨A2, c2, rfl, hs2⟩ := ho2.form
    have hz2 := hb2.size
    have b0 : At w2 w.heap.size 27 #[.int .i64 s, .int .i64 n, .slice A g.length c] := (((At.new _ _ _).alloc _).below hb1 (by simp; omega)).below hb2 (by omega)
    have b1 : At w2 (w.heap.size + 1) 27 #[.int .i64 0, .int .i64 0, .slice none 0 0] := by
      have := ((At.new (w.alloc (.cells #[.int .i64 s, .int .i64 n, .slice A g.length c] 27)) 27 #[.int .i64 0, .int .i64 0, .slice none 0 0]).below hb1 (by simp)).below hb2 (by simp; omega)
      simpa using this
    clear hc1 hf1
    have k0 : w2.cell? ⟨w.heap.size, 0, none⟩ = some (.int .i64 s) := b0.cell 0
    have k1 : w2.cell? ⟨w.heap.size, 1, none⟩ = some (.int .i64 n) := b0.cell 1
    have k2 : w2.cell? ⟨w.heap.size, 2, none⟩ = some (.slice A g.length c) := b0.cell 2
    have hs2' := (hs1.below hb2).more hz2
    go_wp2_with fail
    refine (waiting_any _ _ _ _ _ _ hs2' hok).mono ?_
    rintro e w3 ⟨v3, rfl, ho3, hb3⟩
    obtain ⟨A3, c3, rfl, hs3⟩ := ho3.form
    have hz3 := hb3.size
    have e0 := b0.below hb3 (by omega)
    have e1 := b1.below hb3 (by omega)
    clear k0 k1 k2
    have k1 : w3.cell? ⟨w.heap.size, 1, none⟩ = some (.int .i64 n) := e0.cell 1
    obtain ⟨b, o, rfl, _, hc⟩ := hs3.int hlen
    rw [HH.out, Nat.add_zero] at hc
    have hbn : Below (w.heap.size + 2) ((w.alloc (.cells #[.int .i64 s, .int .i64 n, .slice A g.length c] 27)).alloc (.cells #[.int .i64 0, .int .i64 0, .slice none 0 0] 27)) w3 := ((hb1.mono (by simp)).trans (hb2.mono (by omega))).trans (hb3.mono (by omega))
    have hs4 : Sees w3 w3.heap.size A (ints g) := (hs2'.below hb3).more hz3
    have hq0 : w.heap.size < w3.heap.size := by omega
    have hq1 : w.heap.size + 1 < w3.heap.size := by omega
    have hq2 : ¬ w.heap.size = w3.heap.size := by omega
    have hq3 : ¬ w.heap.size = w3.heap.size + 1 := by omega
    clear hb1 hb2 hb3 hs1 hs2 hs2' hs3 ho2 ho3
    go_wp2
    go_loopw [7] (fun i wr => ∃ (k : Nat) (v : Value), k ≤ g.length ∧ i = .int .i64 k ∧ At wr (w3.heap.size + 1) 27 #[.int .i64 (T + 1), .int .i64 n, v] ∧ Own wr w3.heap.size v ((g.take k).filter F) ∧ Below w3.heap.size w3 wr) (fun i _ => g.length - (intOf i).toNat)
    case atStart =>
      refine ⟨0, _, Nat.zero_le _, rfl, by simpa using At.new (w3.alloc (.cells #[] 3)) 27 #[.int .i64 (T + 1), .int .i64 n, .slice (some ⟨w3.heap.size, 0, none⟩) 0 0], ?_, ((Below.refl _ _).alloc (Nat.le_refl _) _).alloc (by simp) _⟩
      simpa using (Own.made w3 w3.heap.size (Nat.le_refl _)).below ((Below.refl _ _).alloc (Nat.le_refl _) _)
    case round =>
      obtain ⟨k, v, hk, rfl, hat, ho, hb⟩ := hrel
      have hzr := hb.size
      have hl1 := hat.lt
      have n1 : ¬ w3.heap.size + 1 = wr.heap.size := by omega
      have n2 : ¬ w.heap.size = wr.heap.size := by omega
      clear k1
      have z0 := (e0.below hb hq0).cell
      have zf := (e0.below hb hq0).frozen
      have z1 := (e1.below hb hq1).cell
      have zf1 := (e1.below hb hq1).frozen
      have z2 : wr.cell? ⟨w.heap.size, 2, none⟩ = some (.slice A g.length c) := z0 2
      have o2 : wr.cell? ⟨w3.heap.size + 1, 2, none⟩ = some v := hat.cell 2
      have o0 : wr.cell? ⟨w3.heap.size + 1, 0, none⟩ = some (.int .i64 (T + 1)) := hat.cell 0
      have o1 : wr.cell? ⟨w3.heap.size + 1, 1, none⟩ = some (.int .i64 n) := hat.cell 1
      have of := hat.frozen
      have hk12 : g.length ≤ 12 := HG.out
      by_cases hlt : k < g.length
      · obtain ⟨bb, oo, rfl, hbb, hcc⟩ := (hs4.below hb).int hlt
        have n3 : ¬ bb = wr.heap.size := by omega
        have hi : (k : Int) < (g.length : Int) := by omega
        by_cases hx : T < g[k]
        · have hne2 := ho.ne hat (by decide)
          obtain ⟨L, hL⟩ : ∃ L, L = (g.take k).filter F := ⟨_, rfl⟩
          rw [← hL] at ho
          have HL := hid (show L.length ≤ 12 by have := HG.out; have := lt_len g F k; rw [hL]; omega)
          have HQ := hid hL
          clear hL
          obtain ⟨AL, cL, rfl, hcL, _⟩ := ho.formC
          go_wp2_with fail
          go_region_law (refine step_append_lies _ (by rfl) _ _ _ (by rfl) w3.heap.size 3 i0 _ 1 8 Try.underlying22 hi0 hj0 hj1 hj2 rfl (by omega) (.slice AL L.length cL) L.length (ints L) (by rfl) ((show Own wr.drew w3.heap.size (.slice AL L.length cL) L from ho).out.alloc _) ⟨wr.heap.size, 0, none⟩ 1 1 [.int .i64 g[k]] (by rfl) (by rfl) (cell_one_new _ _ _) (by simp [Value.oneCell']) (by omega) (by have := HL.out; unfold maxLen; omega) (by have := HL.out; omega) (by simp; omega) (wr.heap.size + 1) (by simp) ?_; intro gg cap w8 hown8 hgrow8 hat8 hlt8; have hL8 := (hat.drew.alloc (.cells #[.int .i64 g[k]] 3)).grown hgrow8 (fun e => hne2 e.symm); have p2 := hL8.cell 2; have p3 := hL8.frozen)
          all_goals
            obtain ⟨ho1, hb1'⟩ := Own.snoc (show Own wr.drew w3.heap.size (.slice AL L.length cL) L from ho) hb.drew (Nat.le_refl _) hown8 hgrow8
            clear hown8 hgrow8 hat8
            go_wp2
            go_roundw
            case rel =>
              refine ⟨k + 1, _, by omega, by go_num, by simpa using hL8.set 2 _, ?_, hb1'.setCell (by simp) _⟩
              rw [filter_take_succ hlt, if_pos (by rw [HF.out]; simpa using hx), ← HQ.out]
              simpa using ho1.far hL8 (by decide)
            case measure => simp [intOf]; omega
        · go_wp2
          go_roundw
          case rel =>
            refine ⟨k + 1, v, by omega, by go_num, hat, ?_, hb⟩
            rw [filter_take_succ hlt, if_neg (by rw [HF.out]; simpa using hx), List.append_nil]; exact ho
          case measure => simp [intOf]; omega
      · have hi : ¬ (k : Int) < (g.length : Int) := by omega
        obtain ⟨AL, cL, rfl, hcL, _⟩ := ho.formC
        go_wp2
        refine bodyPost_ret (v := .tuple #[.agg #[.int .i64 (T + 1), .int .i64 n, .slice AL ((g.take k).filter F).length cL], .int .i64 T, .bool true]) (by simp [results, Try.results25, go_sem, z1]) rfl ⟨.inl ⟨HB.out, _, by rw [← HT.out], ?_⟩, ?_⟩
        · rw [callG_filter, ← HT.out, ← HF.out]
          have ho' : Own (((wr.setCell ⟨w.heap.size + 1, 0, none⟩ (.int .i64 (T + 1))).setCell ⟨w.heap.size + 1, 1, none⟩ (.int .i64 n)).setCell ⟨w.heap.size + 1, 2, none⟩ (.slice AL ((g.take k).filter F).length cL)) w.heap.size (.slice AL ((g.take k).filter F).length cL) ((g.take k).filter F) := (((ho.setCell (by simpa using hq1) _).setCell (by simpa using hq1) _).setCell (by simpa using hq1) _).mono (by omega)
          rw [take_whole hlt] at ho' ⊢
          exact ho'
        · exact ((((((Below.refl _ _).alloc (Nat.le_refl _) _).alloc (by simp) _).trans (hbn.mono (by omega))).trans (hb.mono (by omega))).setCell (by simp) _ |>.setCell (by simp) _).setCell (by simp) _

end Go.Proofs.Ytcfijijpcafncac
