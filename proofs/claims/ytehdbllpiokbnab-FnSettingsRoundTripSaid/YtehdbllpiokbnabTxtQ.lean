/-
  What the model's parseList answers. Condition: the text is at most 2^22 bytes long.
-/
import Derived.Test.YtehdbllpiokbnabTxtP
import Derived.Test.YtehdbllpiokbnabSeesF
import Derived.Maps.AppendAt

namespace Go.Proofs.Ytehdbllpiokbnab
open Go.RowKit Txt Pol

def nnB (l : List Int) : Bool := decide (∀ x ∈ l, 0 ≤ x)
theorem nnB_iff {l : List Int} : nnB l = true ↔ ∀ x ∈ l, 0 ≤ x := by unfold nnB; simp
def nlT (S : List UInt8) : List Int := if nnB (numL S) = true then numL S else []
theorem nlT_yes {S : List UInt8} (h : nnB (numL S) = true) : nlT S = numL S := if_pos h
theorem nlT_no {S : List UInt8} (h : nnB (numL S) = false) : nlT S = [] := by unfold nlT; rw [h]; rfl
/-- The block that was made first, and those from M on: where a list lies that was begun ahead of other lists. -/
def OutF (g M : Nat) (q : Nat) : Prop := q = g ∨ M ≤ q
theorem outF_of {g M n : Nat} {v v' : Value} (h : ∀ q, v.ownBlock = some q → OutF g M q) (hM : M ≤ n) (hat : v'.ownBlock = v.ownBlock ∨ v'.ownBlock = some n) : ∀ q, v'.ownBlock = some q → OutF g M q := fun q hq => by
  rcases hat with e | e
  · exact h q (e ▸ hq)
  · rw [e] at hq; injection hq with hq; exact .inr (by omega)
theorem SeesF.wordF {w : World} {F : Nat → Prop} {A : Option Addr} {l : List (List UInt8)} (h : SeesF w F A (strip tcell l)) {k : Nat} (hk : k < l.length) : ∃ b o, A = some ⟨b, o, none⟩ ∧ b < w.heap.size ∧ w.cell? ⟨b, o + k, none⟩ = some (.string (ByteArray.mk l[k].toArray)) := h.sees.word hk
set_option maxHeartbeats 4000000 in
set_option maxRecDepth 16384 in
theorem parseList_any (S : List UInt8) (w : World) (hS : S.length ≤ 4194303) :
    Calls Try.prog 39 #[tx S] w fun e w' => ∃ v, e = .returned (.tuple #[v, .bool (nnB (numL S))]) ∧ Own w' w.heap.size v (nlT S) ∧ Below w.heap.size w w' := by
  obtain ⟨i0, hi0, hz0, hz1, hz2⟩ := info_parts intInfo
  have hm0 : Own (w.alloc (.cells #[] 3)) w.heap.size (.slice (some ⟨w.heap.size, 0, none⟩) 0 0) [] := Own.made w _ (Nat.le_refl _)
  have hbm := (Below.refl w.heap.size w).alloc (Nat.le_refl _) (.cells #[] 3)
  by_cases h0 : S = []
  · subst h0
    have E1 : Hid (nnB (numL []) = true) := hid rfl
    have E2 : Hid (nlT [] = []) := hid rfl
    unfold tx
    go_enter Try.func39, Try.ntmps39
    go_wp2
    go_ret2
    refine ⟨_, by rw [E1.out]; rfl, ?_, hbm⟩
    rw [E2.out]; exact hm0
  have hS0 : (S == []) = false := by simpa using h0
  have HNL := hid (numL_of h0)
  have HWL := hid (fun t ht => Nat.le_trans (spl_lens (c := 44) (s := S) (t := t) ht) (show S.length ≤ 4194304 by omega))
  have HWN := hid (Nat.le_trans (spl_up 44 S) (show S.length + 1 ≤ 4194304 by omega))
  have hS4 : S.length ≤ 4194304 := by omega
  have cs := fun w => splitAt_any S 44 44 w rfl hS4
  unfold tx at cs
  have CS := hid cs
  clear cs h0 hS
  unfold tx
  go_enter Try.func39, Try.ntmps39
  go_wp2_with fail
  with_reducible refine (CS.out _).mono ?_
  rintro e w1 ⟨v, rfl, ho, hb1⟩
  obtain ⟨W, hW⟩ : ∃ W, W = spl 44 S := ⟨_, rfl⟩
  rw [← hW] at ho HWL HWN HNL
  clear hW CS
  obtain ⟨A, c1, rfl, _, _, _⟩ := OwnS.form ho
  have hm1 := hm0.below hb1
  have hbw := hbm.trans (hb1.mono hbm.size)
  have hsf : SeesF w1 (OutF w.heap.size w1.heap.size) A (strip tcell W) := SeesF.of_row ho.out (fun b h1 h2 e => by rw [World.size_alloc] at h1; rcases e with e | e <;> omega)
  have hzw := hbw.size
  clear hm0 hbm hb1 ho
  go_wp2
  go_loopw [4, 6] (fun v i wr => ∃ k : Nat, k ≤ W.length ∧ i = .int .i64 k ∧ Own wr w.heap.size v ((W.take k).map num) ∧ (∀ q, v.ownBlock = some q → OutF w.heap.size w1.heap.size q) ∧ Hid (∀ x ∈ (W.take k).map num, 0 ≤ x) ∧ SeesF wr (OutF w.heap.size w1.heap.size) A (strip tcell W) ∧ Below w.heap.size w wr ∧ w1.heap.size ≤ wr.heap.size) (fun _ i _ => W.length - (intOf i).toNat)
  case atStart => exact ⟨0, Nat.zero_le _, rfl, hm1, fun q hq => .inl (by injection hq with hq; exact hq.symm), hid (by simp), hsf, hbw, Nat.le_refl _⟩
  case round =>
    clear hm1 hsf hbw
    obtain ⟨k, hk, rfl, ho, hvF, HNN, hsf, hb, hM⟩ := hrel
    have hwn := HWN.out
    by_cases hlt : k < W.length
    · have hi : (k : Int) < (W.length : Int) := by omega
      have hk0 : (0 : Int) ≤ (k : Int) := by omega
      obtain ⟨bk, o, rfl, hbl, e0⟩ := hsf.wordF hlt
      have hxl := HWL.out _ (List.getElem_mem hlt)
      have HT := hid (show (W.take (k + 1)).map num = (W.take k).map num ++ [num W[k]] by rw [List.take_succ_eq_append_getElem hlt, List.map_append]; rfl)
      have HBAD := hid (fun (h : num W[k] < 0) => (Bool.eq_false_iff.2 fun e => by have := nnB_iff.1 e (num W[k]) (by rw [HNL.out]; exact List.mem_map_of_mem (List.getElem_mem hlt)); omega : nnB (numL S) = false))
      have hkl := numM_len W k
      obtain ⟨x, hx⟩ : ∃ x, x = W[k] := ⟨_, rfl⟩
      rw [← hx] at e0 hxl HT HBAD
      clear hx
      have c0 := fun w => parseInt_any x w hxl
      unfold tx at c0
      have C0 := hid c0
      clear c0
      have hz := hb.size
      go_wp2_with fail
      with_reducible refine (C0.out _).mono ?_
      rintro e w2 ⟨rfl, hb2⟩
      obtain ⟨n, hn⟩ : ∃ n, n = num x := ⟨_, rfl⟩
      have HN := hid hn.symm
      rw [← hn] at HT HBAD ⊢
      have e2 := ((below_cell hb2).1 bk (o + k) hbl).trans e0
      clear hn e0
      have hB2 := hb.trans (hb2.mono hz)
      have hbl2 := Nat.lt_of_lt_of_le hbl hb2.size
      by_cases hneg : n < 0
      · have E1 := hid (HBAD.out hneg)
        have E2 := hid (nlT_no E1.out)
        go_wp2
        go_ret2
        refine ⟨_, by rw [E1.out]; rfl, ?_, hB2⟩
        rw [E2.out]; exact Own.none_ _ _
      · have HNN2 := hid (show ∀ x ∈ (W.take (k + 1)).map num, 0 ≤ x by
          rw [HT.out]; intro y hy
          rw [List.mem_append, List.mem_singleton] at hy
          rcases hy with hy | rfl
          · exact HNN.out y hy
          · omega)
        go_wp2_with fail
        with_reducible refine (C0.out _).mono ?_
        rintro e w3 ⟨he, hb3⟩
        rw [HN.out] at he
        subst he
        have hB3 := hB2.trans (hb3.mono hB2.size)
        have hz3 := hB3.size
        have hM3 : w1.heap.size ≤ w3.heap.size := Nat.le_trans hM (Nat.le_trans hb2.size hb3.size)
        have ho3 := (ho.below hb2).below hb3
        have hsf3 := (hsf.below hb2).below hb3
        have hlow := fun q hq => (ho3.out.lt q hq).1
        obtain ⟨R, hR⟩ : ∃ R, R = (W.take k).map num := ⟨_, rfl⟩
        rw [← hR] at HT ho3 hkl
        clear hR C0 ho hb hb2 hb3 hsf e2 hB2 HNN HBAD
        have ho4 := (ho3.below ((Below.refl _ _).alloc (Nat.le_refl _) (.cells #[.int .i64 n] 3))).out
        go_wp2_with (at_builtin; refine wpList_append_own_at _ rfl _ _ 23 rfl w.heap.size 3 i0 (.int .i64 0) 1 8 Try.underlying23 hi0 hz0 hz1 hz2 rfl (by decide) _ _ _ rfl ho4 ⟨w3.heap.size, 0, none⟩ 1 1 [.int .i64 n] rfl rfl (cell_one_new _ _ _) ?c2 ?c3 ?c4 ?c5 ?_)
        case c2 => simp [Value.oneCell']
        case c3 => unfold maxLen; omega
        case c4 => omega
        case c5 => first | omega | (simp; omega) | (simp; done)
        case _ =>
          intro v4 w4 h4 hg4 _ hat
          have ho5 : Own w4 w.heap.size v4 ((W.take (k + 1)).map num) := by
            rw [HT.out]
            unfold Own
            rw [List.length_append, List.length_singleton, ints_app]
            exact h4
          have hb4 : Below w.heap.size (w3.alloc (.cells #[.int .i64 n] 3)) w4 := (Below.refl _ _).grown hg4 (by simp; omega) hlow
          have hb5 := (hB3.alloc hz3 (.cells #[.int .i64 n] 3)).trans hb4
          have hsf5 := (hsf3.alloc (.cells #[.int .i64 n] 3)).grown hg4 hvF
          have hvF5 := outF_of hvF (by first | omega | (rw [World.size_alloc]; omega)) hat
          have hM5 : w1.heap.size ≤ w4.heap.size := Nat.le_trans hM3 (Nat.le_trans (by first | omega | (rw [World.size_alloc]; omega)) hg4.size)
          clear h4 hg4 hb4 hB3 ho3 ho4 hlow hat hsf3
          go_wp2
          go_roundw
          case rel => exact ⟨k + 1, by omega, by go_num, ho5, hvF5, HNN2, hsf5, hb5, hM5⟩
          case measure => simp [intOf]; omega
    · have hi : ¬ (k : Int) < (W.length : Int) := by omega
      have hnn := HNN.out
      rw [List.take_of_length_le (by omega), ← HNL.out] at ho hnn
      have E1 := hid (nnB_iff.2 hnn)
      have E2 := hid (nlT_yes E1.out)
      clear hnn
      go_wp2
      go_ret2
      refine ⟨_, by rw [E1.out]; rfl, ?_, hb⟩
      rw [E2.out]; exact ho

end Go.Proofs.Ytehdbllpiokbnab
