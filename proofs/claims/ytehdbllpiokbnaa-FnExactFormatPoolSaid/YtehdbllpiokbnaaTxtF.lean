/-
  What the functions answer that write lists of numbers, the program's and the model's. Condition: the list lies in memory, its numbers are from 0 to 9999.
-/
import Derived.Test.YtehdbllpiokbnaaTxtC
namespace Go.Proofs.Ytehdbllpiokbnaa
open Go.RowKit Txt

def numTs (l : List Int) : List (List UInt8) := l.map fun x => dec x.toNat
def nums (l : List Int) : List UInt8 := jn (numTs l) l.length
theorem numTs_at {l : List Int} {k : Nat} (h : k < l.length) : (numTs l).getD k [] = dec l[k].toNat := by unfold numTs; simp [List.getD_eq_getElem?_getD, h]
theorem numTs_len {l : List Int} (h : ∀ x ∈ l, 0 ≤ x ∧ x ≤ 9999) : ∀ t ∈ numTs l, t.length ≤ 4 := fun t ht => by
  obtain ⟨x, hx, rfl⟩ := List.mem_map.1 ht
  exact dec_len 3 _ (by have := h x hx; omega)
set_option maxHeartbeats 4000000 in
theorem numbersText_any (A : Option Addr) (c : Nat) (l : List Int) (w : World) (h : Sees w w.heap.size A (ints l)) (hn : l.length ≤ 4194304) (hx : ∀ x ∈ l, 0 ≤ x ∧ x ≤ 9999) :
    Calls Try.prog 39 #[.slice A l.length c] w fun e w' => e = .returned (tx (nums l)) ∧ Below w.heap.size w w' := by
  obtain ⟨i0, hi0, hz0, hz1, hz2⟩ := info_parts strInfo
  have HN := hid hn
  have HX := hid hx
  have HTL := hid (numTs_len hx)
  have HLN : Hid ((numTs l).length = l.length) := hid (by unfold numTs; simp)
  clear hn hx
  go_enter Try.func39, Try.ntmps39
  go_wp2
  go_loopw [3, 8] (fun v i wr => ∃ k : Nat, k ≤ l.length ∧ i = .int .i64 k ∧ OwnS 9 1 tcell wr w.heap.size v ((numTs l).take k) ∧ Below w.heap.size w wr) (fun _ i _ => l.length - (intOf i).toNat)
  case atStart => exact ⟨0, Nat.zero_le _, rfl, OwnS.none_ _ _, Below.refl _ _⟩
  case round =>
    obtain ⟨k, hk, rfl, ho, hb⟩ := hrel
    have hn := HN.out
    by_cases hlt : k < l.length
    · have hi : (k : Int) < (l.length : Int) := by omega
      obtain ⟨b, o, rfl, hbl, e0⟩ := (h.below hb).int hlt
      have hr := HX.out _ (List.getElem_mem hlt)
      have HT : Hid ((numTs l).take (k + 1) = (numTs l).take k ++ [dec l[k].toNat]) := hid (by
        rw [List.take_succ_eq_append_getElem (by rw [HLN.out]; exact hlt)]
        rw [show (numTs l)[k]'(by rw [HLN.out]; exact hlt) = dec l[k].toNat by unfold numTs; rw [List.getElem_map]])
      have HKL : Hid (((numTs l).take k).length = k) := hid (by rw [List.length_take, HLN.out]; omega)
      obtain ⟨x, hx⟩ : ∃ x, x = l[k] := ⟨_, rfl⟩
      rw [← hx] at e0 HT hr
      obtain ⟨a, rfl⟩ : ∃ a : Nat, x = a := ⟨x.toNat, by omega⟩
      rw [Int.toNat_natCast] at HT
      have ha9 : a ≤ 1000000000 := by omega
      clear hx hr
      have hz := hb.size
      have hlow := ho.lt
      go_wp2_with fail
      with_reducible refine (numberText_any a _ ha9).mono ?_
      rintro e w' ⟨rfl, rfl⟩
      unfold OwnS at ho
      rw [HKL.out] at ho
      have HTX := hid (show tcell (dec a) = [.string (ByteArray.mk (dec a).toArray)] from rfl)
      unfold tx
      obtain ⟨D, hD⟩ : ∃ D, D = ByteArray.mk (dec a).toArray := ⟨_, rfl⟩
      rw [← hD] at HTX ⊢
      clear hD
      go_wp2_with (at_builtin; refine wpList_append_own _ rfl _ _ 48 rfl w.heap.size 9 i0 (.string ⟨#[]⟩) 1 16 Try.underlying48 hi0 hz0 hz1 hz2 rfl (by decide) _ _ _ rfl (own_alloc ho _) ⟨wr.heap.size, 0, none⟩ 1 1 [.string D] rfl rfl (cell_one_new _ _ _) ?c2 ?c3 ?c4 ?c5 ?_)
      case c2 => exact fun u hu => by rw [List.mem_singleton.1 hu]; rfl
      case c3 => unfold maxLen; omega
      case c4 => omega
      case c5 => simp; omega
      case _ =>
        intro v4 w4 h4 hg4 _
        have ho4 : OwnS 9 1 tcell w4 w.heap.size v4 ((numTs l).take (k + 1)) := by
          rw [HT.out]
          unfold OwnS
          rw [List.length_append, HKL.out, strip_snoc, HTX.out]
          exact h4
        have hb4 : Below w.heap.size (wr.alloc (.cells #[.string D] 9)) w4 := (Below.refl _ _).grown hg4 (by simp; omega) (fun q hq => (hlow q hq).1)
        have hb5 := (hb.alloc hz (.cells #[.string D] 9)).trans hb4
        clear h4 hg4 hb4 hb ho hlow
        go_wp2
        go_roundw
        case rel => exact ⟨k + 1, by omega, by go_num, ho4, hb5⟩
        case measure => simp [intOf]; omega
    · have hi : ¬ (k : Int) < (l.length : Int) := by omega
      have hke : k = l.length := by omega
      subst hke
      have HTK := hid (show (numTs l).take l.length = numTs l from List.take_of_length_le (by rw [HLN.out]; exact Nat.le_refl _))
      rw [HTK.out] at ho
      obtain ⟨A3, c3, rfl, _, _, hs3⟩ := OwnS.form ho
      have hl4 : (numTs l).length ≤ 4194304 := by rw [HLN.out]; exact hn
      have HTLo := HTL.out
      have E := hid (show nums l = jn (numTs l) (numTs l).length by unfold nums; rw [HLN.out])
      obtain ⟨Q, hQ⟩ : ∃ Q, Q = numTs l := ⟨_, rfl⟩
      rw [← hQ] at hs3 hl4 E HTLo ⊢
      clear hQ ho HTK HLN HTL
      go_wp2_with fail
      with_reducible refine (joinTexts_any A3 c3 4 Q _ hs3 hl4 HTLo (by decide)).mono ?_
      rintro e w5 ⟨rfl, hb5⟩
      unfold tx
      go_wp2
      go_ret
      exact ⟨by rw [E.out]; rfl, hb.trans (hb5.mono hb.size)⟩

end Go.Proofs.Ytehdbllpiokbnaa
