/-
  The walk of the law FnCallNextAll: at every code it returns true and changes nothing that was there. Conditions: none.
-/
import Derived.Test.YtcfijijpcafncabLawFrameB
import Derived.Test.YtcfijijpcafncabLineE
import Derived.Test.YtcfijijpcafncabLineG
import Derived.Test.YtcfijijpcafncabLineI
import Derived.Test.YtcfijijpcafncabLineJ
import Derived.Test.YtcfijijpcafncabLineMathD
namespace Go.Proofs.Ytcfijijpcafncab
open Go.RowKit

set_option maxHeartbeats 2000000 in
theorem walkCallNextAll (a : Option Addr) (len cap : Nat) (zs : List Int) (w : World) (hn : zs.length = len) (hc : len ≤ cap) (hcc : cap ≤ maxLen) (h : Sees w w.heap.size a (byts zs)) (hz : ∀ y ∈ zs, 0 ≤ y ∧ y ≤ 255) :
    Calls Try.prog 3 #[.slice a len cap] w fun e w' => e = .returned (.bool true) ∧ Below w.heap.size w w' := by
  have HE := hid hn
  have HC := hid hcc
  have HZ := hid hz
  clear hn hcc hz
  by_cases hbig : 1048576 < len
  · go_enter Try.func3, Try.ntmps3
    go_wp2
    go_ret
    exact ⟨rfl, Below.refl _ _⟩
  · go_enter Try.func3, Try.ntmps3
    go_wp2_with fail
    refine (drawCallNext_any _ _ _ _ _ h HZ.out HE.out hc (by omega) HC.out).mono ?_
    rintro e w1 ⟨s, n, A, c, l, rfl, ho, k1, k2, k3, k4, hl, hb1⟩
    have HL := hid (show l.length ≤ 4194304 by omega)
    clear hl
    have ls := LS.start (s := s) (n := n) ho hb1
    rcases hb : Line.callB s n l with _ | _
    · go_wp2_with fail
      refine (iCallNext_any _ _ _ _ _ _ ls.sees HL.out).mono ?_
      rintro e w2 ⟨⟨hf, _⟩ | ⟨_, rfl⟩, hb2⟩
      · rw [hb] at hf; cases hf
      have ls2 := ls.below hb2
      obtain ⟨c0, c1, c2, cl⟩ := ls2.cells
      have lo := LS.zero w2
      have ls3 := ls2.alloc (.cells #[.int .i64 0, .int .i64 0, .slice none 0 0] 25)
      go_wp2_with fail
      refine (sCallNext_any _ _ _ _ _ _ ls3.sees HL.out).mono ?_
      rintro e w3 ⟨⟨hf, _⟩ | ⟨_, rfl⟩, hb3⟩
      · rw [hb] at hf; cases hf
      have ls4 := ls3.below hb3
      have lo4 := lo.below hb3
      clear c0 c1 c2 cl
      obtain ⟨c0, c1, c2, cl⟩ := lo4.cells
      go_wp2_with fail
      refine (equalLine_zero _).mono ?_
      rintro e w4 ⟨rfl, hb4⟩
      have ls5 := (ls4.alloc (.cells #[.int .i64 0, .int .i64 0, .slice none 0 0] 25)).below hb4
      have lo5 := (lo4.alloc (.cells #[.int .i64 0, .int .i64 0, .slice none 0 0] 25)).below hb4
      have lw5 := (LS.zero w3).below hb4
      clear c0 c1 c2 cl
      obtain ⟨d0, d1, d2, dl⟩ := lo5.cells
      obtain ⟨e0, e1, e2, el⟩ := lw5.cells
      go_wp2_with fail
      refine (equalLine_zero _).mono ?_
      rintro e w6 ⟨rfl, hb6⟩
      have ls7 := ls5.below hb6
      go_wp2
      go_ret
      exact ⟨rfl, ls7.2.2.1⟩
    · obtain ⟨hok, _⟩ := Line.call_parts hb
      have HB := hid hb
      have hgl := hid (show (Line.callG s n l).length ≤ 4194304 by have := Line.gone_len (Line.call_ok hb); omega)
      go_wp2_with fail
      refine (iCallNext_any _ _ _ _ _ _ ls.sees HL.out).mono ?_
      rintro e w2 ⟨⟨_, v2, rfl, ho2⟩ | ⟨hf, _⟩, hb2⟩
      rotate_left
      · rw [hb] at hf; cases hf
      obtain ⟨A2, cc2, rfl, _⟩ := ho2.form
      have ls2 := ls.below hb2
      obtain ⟨c0, c1, c2, cl⟩ := ls2.cells
      have lo := LS.start (s := Line.callT s n l + 1) (n := n) ho2 hb2
      have ls3 := ls2.alloc (.cells #[.int .i64 (Line.callT s n l + 1), .int .i64 n, .slice A2 (Line.callG s n l).length cc2] 25)
      go_wp2_with fail
      refine (sCallNext_any _ _ _ _ _ _ ls3.sees HL.out).mono ?_
      rintro e w3 ⟨⟨_, v3, rfl, ho3⟩ | ⟨hf, _⟩, hb3⟩
      rotate_left
      · rw [hb] at hf; cases hf
      obtain ⟨A3, cc3, rfl, _⟩ := ho3.form
      have ls4 := ls3.below hb3
      have lo4 := lo.below hb3
      have lw4 := LS.start (s := Line.callT s n l + 1) (n := n) ho3 hb3
      clear c0 c1 c2 cl
      obtain ⟨c0, c1, c2, cl⟩ := lo4.cells
      go_wp2_with fail
      refine (equalLine_same _ _ _ _ _ _ _ _ (lo4.alloc _).sees lw4.sees hgl.out).mono ?_
      rintro e w4 ⟨rfl, hb4⟩
      have ls5 := (ls4.alloc (.cells #[.int .i64 (Line.callT s n l + 1), .int .i64 n, .slice A3 (Line.callG s n l).length cc3] 25)).below hb4
      have lo5 := (lo4.alloc (.cells #[.int .i64 (Line.callT s n l + 1), .int .i64 n, .slice A3 (Line.callG s n l).length cc3] 25)).below hb4
      clear c0 c1 c2 cl
      obtain ⟨c0, c1, c2, cl⟩ := ls5.cells
      have hw12 := waitV_len s n l
      have HW := hid (Line.waitV_yes hok)
      have HOK := hid hok
      go_wp2_with fail
      refine (iWaitingTickets_any _ _ _ _ _ _ ls5.sees HL.out).mono ?_
      rintro e w5 ⟨v5, rfl, ho5, hb5⟩
      obtain ⟨A5, cc5, rfl, hs5⟩ := ho5.form
      have ls6 := ls5.below hb5
      clear c0 c1 c2 cl
      obtain ⟨c0, c1, c2, cl⟩ := ls6.cells
      obtain ⟨W, hW⟩ : ∃ W, W = Line.waitV s n l := ⟨_, rfl⟩
      rw [← hW] at ho5 hs5 hw12
      have HWW := hid (hW.trans HW.out)
      rw [← hW]
      clear hW hb2 hb3 hb4 hb5 ho2 ho3 lo lo4 lo5 lw4 ls2 ls3 ls4 ls5
      go_wp2
      go_loopw [12] (fun i wr => ∃ (k : Nat) (S : Int) (A : Option Addr) (cc : Nat) (G : List Int), i = .int .i64 k ∧ k ≤ W.length ∧ Hid (Line.okB S n G = true ∧ Line.waits S n G = W.drop k) ∧ At wr w5.heap.size 25 #[.int .i64 S, .int .i64 n, .slice A G.length cc] ∧ Own wr w.heap.size (.slice A G.length cc) G ∧ Below w5.heap.size w5 wr) (fun i _ => W.length - (intOf i).toNat)
      case atStart => exact ⟨0, s, A, c, l, rfl, Nat.zero_le _, hid ⟨HOK.out, by rw [List.drop_zero, HWW.out]⟩, At.new _ _ _, ls6.2.1.below ((Below.refl _ _).alloc (Nat.le_refl _) _), (Below.refl _ _).alloc (Nat.le_refl _) _⟩
      case round =>
        obtain ⟨k, S, A', cc, G, rfl, hk, HI, hat, hog, hbw⟩ := hrel
        have hzr := hbw.size
        have hlt' := hat.lt
        have z0 : wr.cell? ⟨w5.heap.size, 0, none⟩ = some (.int .i64 S) := hat.cell 0
        have z1 : wr.cell? ⟨w5.heap.size, 1, none⟩ = some (.int .i64 n) := hat.cell 1
        have z2 : wr.cell? ⟨w5.heap.size, 2, none⟩ = some (.slice A' G.length cc) := hat.cell 2
        have zf := hat.frozen
        have HG := hid (show G.length ≤ 4194304 by have := Line.gone_len HI.out.1; omega)
        by_cases hlt : k < W.length
        · have hi : (k : Int) < (W.length : Int) := by omega
          obtain ⟨r1, r2⟩ := HI.out
          have hpos : 0 < (Line.waits S n G).length := by rw [r2, List.length_drop]; omega
          have hcb : Line.callB S n G = true := by rw [Line.callB_waits r1]; exact decide_eq_true hpos
          have hct : Line.callT S n G = W[k] := by
            rw [Line.callT_waits hpos]
            simp only [r2, List.getElem_drop]
            simp
          have hnx := Line.call_waits hcb
          have HN : Hid (Line.okB (Line.callT S n G + 1) n (Line.callG S n G) = true ∧ Line.waits (Line.callT S n G + 1) n (Line.callG S n G) = W.drop (k + 1)) := hid ⟨Line.call_ok hcb, by
            rw [r2, List.drop_eq_getElem_cons hlt] at hnx
            injection hnx with _ h2
            exact h2.symm⟩
          have HCT := hid hct
          clear r1 r2 hnx hct hpos
          go_wp2_with fail
          refine (iCallNext_any _ _ _ _ _ _ (Sees.of_own hog.out) HG.out).mono ?_
          rintro e w7 ⟨⟨_, v7, rfl, ho7⟩ | ⟨hf, _⟩, hb7⟩
          rotate_left
          · rw [hcb] at hf; cases hf
          obtain ⟨A7, cc7, rfl, _⟩ := ho7.form
          obtain ⟨b, o, rfl, hbl, hcell⟩ := ((hs5.below hbw).below (hb7.mono hzr)).int hlt
          rw [← HCT.out] at hcell
          have hat7 := hat.below hb7 hat.lt
          clear z0 z1 z2 zf
          have zf := hat7.frozen
          have hz7 := hat7.lt
          have hz8 := hb7.size
          have z0 : w7.cell? ⟨w5.heap.size, 0, none⟩ = some (.int .i64 S) := hat7.cell 0
          have z1 : w7.cell? ⟨w5.heap.size, 1, none⟩ = some (.int .i64 n) := hat7.cell 1
          have z2 : w7.cell? ⟨w5.heap.size, 2, none⟩ = some (.slice A' G.length cc) := hat7.cell 2
          have hbl7 : b < w7.heap.size := by omega
          go_wp2
          go_roundw
          case rel =>
            refine ⟨k + 1, _, _, _, _, by go_num, by omega, HN, by simpa using (((hat7.set 0 (.int .i64 (Line.callT S n G + 1))).set 1 (.int .i64 n)).set 2 (.slice A7 (Line.callG S n G).length cc7)).alloc _, ?_, ?_⟩
            · exact (own_side3 (ho7.mono (by have := ls6.2.2.1.size; omega)) hat7 _ _ _).below ((Below.refl _ _).alloc (Nat.le_refl _) _)
            · exact (((((hbw.trans (hb7.mono hzr)).setCell (by simp) _).setCell (by simp) _).setCell (by simp) _).alloc (by simp; omega) _)
          case measure => simp [intOf]; omega
        · have hi : ¬ (k : Int) < (W.length : Int) := by omega
          have hcb : Line.callB S n G = false := by
            rw [Line.callB_waits HI.out.1, HI.out.2]; exact decide_eq_false (by rw [List.length_drop]; omega)
          go_wp2_with fail
          refine (iCallNext_any _ _ _ _ _ _ (Sees.of_own hog.out) HG.out).mono ?_
          rintro e w7 ⟨⟨hf, _⟩ | ⟨_, rfl⟩, hb7⟩
          · rw [hcb] at hf; cases hf
          go_wp2
          go_ret
          exact ⟨by simp, ((ls6.2.2.1.trans (hbw.mono (by have := ls6.2.2.1.size; omega))).trans (hb7.mono (by have := ls6.2.2.1.size; omega))).alloc (by have := ls6.2.2.1.size; have := hb7.size; omega) _⟩

end Go.Proofs.Ytcfijijpcafncab
