/-
  The walk of the law FnValidCounts: at every code it returns true and changes nothing that was there. Conditions: none.
-/
import Derived.Test.YtiiieollemhjmabLawWtB
import Derived.Test.YtiiieollemhjmabLawFrame
import Derived.BigQuiet

namespace Go.Proofs.Ytiiieollemhjmab
open Go.RowKit Wt

set_option maxHeartbeats 8000000 in
theorem walkValidCounts (a : Option Addr) (len cap : Nat) (zs : List Int) (w : World) (hn : zs.length = len) (hc : len ≤ cap) (hcc : cap ≤ maxLen) (h : Sees w w.heap.size a (byts zs)) (hz : ∀ y ∈ zs, 0 ≤ y ∧ y ≤ 255) :
    Calls Try.prog 4 #[.slice a len cap] w fun e w' => e = .returned (.bool true) ∧ Below w.heap.size w w' := by
  have HE := hid hn
  have HC := hid hcc
  have HZ := hid hz
  clear hn hcc hz
  by_cases hbig : 1048576 < len
  · go_enter Try.func4, Try.ntmps4
    go_wp2
    go_ret
    exact ⟨rfl, Below.refl _ _⟩
  · go_enter Try.func4, Try.ntmps4
    go_wp2_with fail
    refine (drawValidCounts_any _ _ _ _ _ h HZ.out HE.out hc (by omega) HC.out).mono ?_
    rintro e w2 ⟨A, c, ys, rfl, dl⟩
    obtain ⟨i0, hi0, hz0, hz1, hz2⟩ := info_parts intInfo
    have HR := hid (cntB_rev ys)
    obtain ⟨K, hK⟩ : ∃ K, K = cntB ys := ⟨_, rfl⟩
    have E : Hid (cntB ys = K) := hid hK.symm
    rw [← hK] at HR
    clear hK
    have HL := hid dl.n18
    go_wp2_with fail
    with_reducible refine (iValidCounts_any A c ys _ dl.sees dl.n4).mono ?_
    rintro e w' ⟨he, rfl⟩
    rw [E.out] at he
    subst he
    go_wp2_with fail
    with_reducible refine (sValidCounts_any A c ys _ dl.sees dl.n4).mono ?_
    rintro e w' ⟨he, rfl⟩
    rw [E.out] at he
    subst he
    have h18 := dl.n18
    have hw : IntKind.i64.wrap ((ys.length : Int) - 1) = (ys.length : Int) - 1 := by rw [IntKind.wrap_i64]; omega
    have ho0 : Own (w2.alloc (.cells #[] 3)) w2.heap.size (.slice (some ⟨w2.heap.size, 0, none⟩) 0 0) [] := made_at 3 1 rfl (Nat.le_refl _)
    have hb0 := (Below.refl w2.heap.size w2).alloc (Nat.le_refl _) (.cells #[] 3)
    go_wp2_with fail
    go_loopw [5, 6] (fun v i wr => ∃ (k : Nat) (B : Option Addr) (d : Nat) (xs : List Int), k ≤ ys.length ∧ i = .int .i64 ((k : Int) - 1) ∧ v = .slice B xs.length d ∧ Hid (xs = (ys.drop k).reverse) ∧ Own wr w2.heap.size (.slice B xs.length d) xs ∧ Below w2.heap.size w2 wr) (fun _ i _ => (intOf i + 1).toNat)
    case atStart => exact ⟨ys.length, _, _, [], Nat.le_refl _, rfl, rfl, hid (by simp), ho0, hb0⟩
    case round =>
      clear ho0 hb0
      obtain ⟨k, B, d, xs, hk, rfl, rfl, HX, ho, hbr⟩ := hrel
      have hzr := hbr.size
      by_cases hk0 : 0 < k
      · skip
        obtain ⟨n, rfl⟩ : ∃ n, k = n + 1 := ⟨k - 1, by omega⟩
        have hnl : n < ys.length := by omega
        obtain ⟨b, o, rfl, hbl, hcell⟩ := (dl.below hbr).sees.int hnl
        have HD := hid (drop_snoc hnl)
        obtain ⟨x, hx⟩ : ∃ x, x = ys[n] := ⟨_, rfl⟩
        rw [← hx] at hcell HD
        clear hx
        have e1 : ((n + 1 : Nat) : Int) - 1 = (n : Int) := by omega
        have e2 : (0 : Int) ≤ (n : Int) := by omega
        have e3 : (n : Int) < (ys.length : Int) := by omega
        have hxl : xs.length ≤ 18 := by rw [HX.out]; simp; omega
        have hlow := ho.out.lt
        have hw3 : IntKind.i64.wrap ((n : Int) - 1) = (n : Int) - 1 := by rw [IntKind.wrap_i64]; omega
        rw [e1]
        have HE1 := hid e1
        clear e1
        go_wp2_with (at_builtin; refine wpList_append_own _ rfl _ _ 26 rfl w2.heap.size 3 i0 (.int .i64 0) 1 8 Try.underlying26 hi0 hz0 hz1 hz2 rfl (by decide) _ _ _ rfl (own_alloc ho.out _) ⟨wr.heap.size, 0, none⟩ 1 1 [.int .i64 x] rfl rfl (cell_one_new _ _ _) ?c2 ?c3 ?c4 ?c5 ?_)
        case c2 => simp [Value.oneCell']
        case c3 => unfold maxLen; omega
        case c4 => omega
        case c5 => simp; omega
        case _ =>
          intro v6 w6 h6 hg7 _
          have ho6 : Own w6 w2.heap.size v6 (xs ++ [x]) := by unfold Own; rw [ints_app, List.length_append]; exact h6
          have hb6 : Below w2.heap.size w2 w6 := (hbr.alloc hzr (.cells #[.int .i64 x] 3)).grown hg7 (by simp; omega) (fun q hq => (hlow q hq).1)
          obtain ⟨A6, c6, rfl, _⟩ := own_form h6
          have e6 : (xs ++ [x]).length = xs.length + 1 := by simp
          have HX2 := hid (show xs ++ [x] = (ys.drop n).reverse by rw [HD.out, HX.out])
          clear h6 hg7 hlow ho
          go_wp2
          go_roundw
          case rel => exact ⟨n, A6, c6, xs ++ [x], by omega, by first | rfl | go_num, by rw [e6], HX2, by rw [e6]; exact ho6, hb6⟩
          case measure => first | (simp [intOf]; done) | (simp [intOf]; omega)
      · skip
        have e1 : ¬ (0 : Int) ≤ (k : Int) - 1 := by omega
        have hk1 : k = 0 := by omega
        have HXV := hid (show cntB xs = K by rw [HX.out, hk1, List.drop_zero]; exact HR.out)
        have HXn := hid (show xs.length ≤ 4194304 by rw [HX.out]; simp; omega)
        clear hk1
        go_wp2_with fail
        with_reducible refine (iValidCounts_any B d xs _ (Sees.of_own ho.out) HXn.out).mono ?_
        rintro e w' ⟨he, rfl⟩
        rw [HXV.out] at he
        subst he
        go_wp2_with (refine wpList_make_want _ (by rfl) _ _ 26 rfl wr.heap.size 3 i0 (.int .i64 0) 1 Try.underlying26 hi0 hz0 hz1 .i64 .i64 8 8 8 rfl rfl rfl rfl (by rw [hz2]; omega) (by unfold maxLen; omega) (Nat.le_refl _) ?_)
        case _ =>
          intro w7 h7 hg7
          have ho7 : Own w7 wr.heap.size (.slice (some ⟨wr.heap.size, 0, none⟩) 8 8) (List.replicate 8 0) := by
            unfold Own
            rw [List.length_replicate, ← made_ints]; exact h7
          have hb7 : Below wr.heap.size wr w7 := (Below.refl _ _).grown hg7 (Nat.le_refl _) (fun k hk => by cases hk)
          have dl7 := (dl.below hbr).below hb7
          have HZ8 := hid cntB_zero
          have HR8 := hid (show (List.replicate 8 (0 : Int)).length = 8 by simp)
          have HR4 := hid (show (List.replicate 8 (0 : Int)).length ≤ 4194304 by simp)
          have hs7 : Sees w7 w7.heap.size (some ⟨wr.heap.size, 0, none⟩) (ints (List.replicate 8 0)) := Sees.of_own ho7.out
          clear h7 hg7
          go_wp2_with fail
          with_reducible refine (iValidCounts_len (n := 8) (l := List.replicate 8 0) HR8.out hs7 HR4.out).mono ?_
          rintro e w' ⟨he, rfl⟩
          rw [HZ8.out] at he
          subst he
          go_wp2
          go_ret
          exact ⟨by first | rfl | (simp; done) | (simp; omega), dl7.bel⟩
end Go.Proofs.Ytiiieollemhjmab
