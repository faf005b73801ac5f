/-
  What the functions answer that write connections and their holders, the program's and the model's. Condition: the list lies in memory, its numbers are from 0 to 9999.
-/
import Derived.Test.YtehdbllpiokbnaaTxtD
import Derived.Test.YtehdbllpiokbnaaSsHold
import Derived.Deep.RegionHeld3
namespace Go.Proofs.Ytehdbllpiokbnaa
open Go.RowKit Txt Pol

def holT (x : Ho) : List UInt8 := dec x.c.toNat ++ [58] ++ dec x.o.toNat
def holTs (l : List Ho) : List (List UInt8) := l.map holT
def hols (l : List Ho) : List UInt8 := jn (holTs l) l.length
theorem holTs_at {l : List Ho} {k : Nat} (h : k < l.length) : (holTs l).getD k [] = holT l[k] := by unfold holTs; simp [List.getD_eq_getElem?_getD, h]
def HoOk (x : Ho) : Prop := (0 ≤ x.c ∧ x.c ≤ 9999) ∧ 0 ≤ x.o ∧ x.o ≤ 9999
theorem holT_len {x : Ho} (h : HoOk x) : ∃ a b : Nat, x.c = a ∧ x.o = b ∧ a ≤ 9999 ∧ b ≤ 9999 ∧ (dec a).length ≤ 4 ∧ (dec b).length ≤ 4 ∧ holT x = dec a ++ [58] ++ dec b := by
  obtain ⟨⟨h1, h2⟩, h3, h4⟩ := h
  exact ⟨x.c.toNat, x.o.toNat, by omega, by omega, by omega, by omega, dec_len 3 _ (by omega), dec_len 3 _ (by omega), rfl⟩
theorem holTs_len {l : List Ho} (h : ∀ x ∈ l, HoOk x) : ∀ t ∈ holTs l, t.length ≤ 9 := fun t ht => by
  obtain ⟨x, hx, rfl⟩ := List.mem_map.1 ht
  obtain ⟨a, b, _, _, _, _, h1, h2, e⟩ := holT_len (h x hx)
  rw [e, List.length_append, List.length_append, List.length_singleton]; omega
theorem Sees.hol {w : World} {B : Nat} {A : Option Addr} {l : List Ho} (h : Sees w B A (strip hcells l)) {k : Nat} (hk : k < l.length) : ∃ b o, A = some ⟨b, o, none⟩ ∧ b < B ∧ w.cell? ⟨b, o + k * 2, none⟩ = some (.int .i64 l[k].c) ∧ w.cell? ⟨b, o + k * 2 + 1, none⟩ = some (.int .i64 l[k].o) := by
  obtain ⟨b, o, e, hb, hc⟩ := Sees.elem hcells_len (by decide) h hk
  exact ⟨b, o, e, hb, by simpa [Nat.add_assoc] using hc 0 _ rfl, by simpa [Nat.add_assoc] using hc 1 _ rfl⟩
set_option maxHeartbeats 4000000 in
set_option maxRecDepth 16384 in
theorem iholdsText_any (A : Option Addr) (c : Nat) (l : List Ho) (w : World) (h : Sees w w.heap.size A (strip hcells l)) (hn : l.length ≤ 4194304) (hx : ∀ x ∈ l, HoOk x) :
    Calls Try.prog 40 #[.slice A l.length c] w fun e w' => e = .returned (tx (hols l)) ∧ Below w.heap.size w w' := by
  obtain ⟨i0, hi0, hz0, hz1, hz2⟩ := info_parts strInfo
  have HN := hid hn
  have HTL := hid (holTs_len hx)
  have HOKS := hid hx
  have HLN : Hid ((holTs l).length = l.length) := hid (by unfold holTs; simp)
  clear hn hx
  go_enter Try.func40, Try.ntmps40
  go_wp2
  go_loopw [3, 8] (fun v i wr => ∃ k : Nat, k ≤ l.length ∧ i = .int .i64 k ∧ OwnS 9 1 tcell wr w.heap.size v ((holTs l).take k) ∧ Below w.heap.size w wr) (fun _ i _ => l.length - (intOf i).toNat)
  case atStart => exact ⟨0, Nat.zero_le _, rfl, OwnS.none_ _ _, Below.refl _ _⟩
  case round =>
    obtain ⟨k, hk, rfl, ho, hb⟩ := hrel
    have hn := HN.out
    by_cases hlt : k < l.length
    · have hi : (k : Int) < (l.length : Int) := by omega
      obtain ⟨b, o, rfl, hbl, e0, e1⟩ := (h.below hb).hol hlt
      have HT : Hid ((holTs l).take (k + 1) = (holTs l).take k ++ [holT l[k]]) := hid (by
        rw [List.take_succ_eq_append_getElem (by rw [HLN.out]; exact hlt)]
        rw [show (holTs l)[k]'(by rw [HLN.out]; exact hlt) = holT l[k] by unfold holTs; rw [List.getElem_map]])
      have HKL : Hid (((holTs l).take k).length = k) := hid (by rw [List.length_take, HLN.out]; omega)
      have hok := HOKS.out _ (List.getElem_mem hlt)
      obtain ⟨x, hx⟩ : ∃ x, x = l[k] := ⟨_, rfl⟩
      rw [← hx] at e0 e1 HT hok
      obtain ⟨a, d, ea, ed, ha, hd, la, ld, es⟩ := holT_len hok
      rw [ea] at e0
      rw [ed] at e1
      rw [es] at HT
      clear hx hok es ea ed
      obtain ⟨D1, hD1⟩ : ∃ D, D = dec a := ⟨_, rfl⟩
      obtain ⟨D2, hD2⟩ : ∃ D, D = dec d := ⟨_, rfl⟩
      have H1 := hid hD1
      have H2 := hid hD2
      rw [← hD1] at la HT
      rw [← hD2] at ld HT
      clear hD1 hD2
      have hs1 : ¬ D1.length + 1 > 9223372036854775807 := by omega
      have hs2 : ¬ D1.length + 1 + D2.length > 9223372036854775807 := by omega
      have hs3 : ¬ 9223372036854775807 ≤ D1.length := by omega
      have hs4 : D1.length + 1 ≤ 9223372036854775807 := by omega
      have hs5 : D1.length + 1 + D2.length ≤ 9223372036854775807 := by omega
      have hz := hb.size
      have px := At.new wr 91 #[.int .i64 (a : Int), .int .i64 (d : Int)]
      have hba := hb.alloc hz (.cells #[.int .i64 (a : Int), .int .i64 (d : Int)] 91)
      have hoo := OwnS.below ho ((Below.refl _ _).alloc (Nat.le_refl _) (.cells #[.int .i64 (a : Int), .int .i64 (d : Int)] 91))
      obtain ⟨p0, p1⟩ := (⟨px.cell 0, px.cell 1⟩ : _ ∧ _)
      have pl := px.lt
      have ha9 : a ≤ 1000000000 := by omega
      have hd9 : d ≤ 1000000000 := by omega
      clear ho hb la ld
      go_wp2_with fail
      obtain ⟨W, hW⟩ : ∃ W, W = wr.alloc (.cells #[.int .i64 (a : Int), .int .i64 (d : Int)] 91) := ⟨_, rfl⟩
      rw [← hW] at hba hoo px p0 p1 pl ⊢
      clear hW
      have hzW := hba.size
      have hown : OwnS 9 1 tcell W.drew w.heap.size _ ((holTs l).take k) := OwnS.below hoo (Below.refl _ _).drew
      unfold OwnS at hown
      rw [HKL.out] at hown
      have pxd := px.drew
      go_region_held_law (fun w' => w'.cell? ⟨wr.heap.size, 0, none⟩ = some (.int .i64 (a : Int)) ∧ w'.cell? ⟨wr.heap.size, 1, none⟩ = some (.int .i64 (d : Int)))
        (first | with_reducible exact ⟨p0, p1⟩ | with_reducible exact ⟨q0, q1⟩ | go_keep)
        (first
          | (go_at_call 38; (with_reducible refine (numberText_any a _ ha9).mono ?_); rintro e w' ⟨he, rfl⟩; rw [← H1.out] at he; subst he; unfold tx)
          | (go_at_call 38; (with_reducible refine (numberText_any d _ hd9).mono ?_); rintro e w' ⟨he, rfl⟩; rw [← H2.out] at he; subst he; unfold tx)
          | (refine step_append_own _ (by rfl) _ _ 48 (by rfl) w.heap.size 9 i0 (.string ⟨#[]⟩) 1 16 Try.underlying48 hi0 hz0 hz1 hz2 rfl (by decide) _ k (strip tcell ((holTs l).take k)) (by rfl) (own_alloc hown _) ⟨W.heap.size, 0, none⟩ 1 1 [.string (ByteArray.mk D1.toArray ++ ByteArray.mk #[58] ++ ByteArray.mk D2.toArray)] (by rfl) (by rfl) (by exact cells_new W.drew _ _) (fun u hu => by rw [List.mem_singleton.1 hu]; rfl) (by unfold maxLen; omega) (by omega) (by simp; omega) ?_; intro v2 w4 h2 hg2; have hbx : Below w.heap.size W w4 := ((Below.refl _ _).drew.alloc (by simpa using hzW) _).grown hg2 (by simp; omega) (fun q hq => (hown.lt q hq).1); have pq := (pxd.alloc _).beside (own_alloc hown _) (by decide) hg2; have q0 := pq.cell 0; have q1 := pq.cell 1)
          | fail)
      all_goals
        have ho2 : OwnS 9 1 tcell w4 w.heap.size v2 ((holTs l).take (k + 1)) := by
          rw [HT.out]
          unfold OwnS
          rw [List.length_append, HKL.out, strip_snoc]
          have e : tcell (D1 ++ [58] ++ D2) = [.string (ByteArray.mk D1.toArray ++ ByteArray.mk #[58] ++ ByteArray.mk D2.toArray)] := by
            unfold tcell tx
            rw [show (ByteArray.mk #[58]) = ByteArray.mk ([58] : List UInt8).toArray from rfl, tx_app, tx_app]
          rw [e]
          exact h2
        have hb2 : Below w.heap.size w w4 := hba.trans hbx
        clear h2 hg2 hbx pq q0 q1 p0 p1 px pxd hown
        go_wp2
        go_roundw
        case rel => exact ⟨k + 1, by omega, by go_num, ho2, hb2⟩
        case measure => simp [intOf]; omega
    · have hi : ¬ (k : Int) < (l.length : Int) := by omega
      have hke : k = l.length := by omega
      subst hke
      have HTK := hid (show (holTs l).take l.length = holTs l from List.take_of_length_le (by rw [HLN.out]; exact Nat.le_refl _))
      rw [HTK.out] at ho
      obtain ⟨A3, c3, rfl, _, _, hs3⟩ := OwnS.form ho
      have hl4 : (holTs l).length ≤ 4194304 := by rw [HLN.out]; exact hn
      have HTLo := HTL.out
      have E := hid (show hols l = jn (holTs l) (holTs l).length by unfold hols; rw [HLN.out])
      rw [show l.length = (holTs l).length from HLN.out.symm]
      obtain ⟨Q, hQ⟩ : ∃ Q, Q = holTs l := ⟨_, rfl⟩
      rw [← hQ] at hs3 hl4 E HTLo ⊢
      clear hQ ho HTK HLN HTL
      go_wp2_with fail
      with_reducible refine (joinTexts_any A3 c3 9 Q _ hs3 hl4 HTLo (by decide)).mono ?_
      rintro e w5 ⟨rfl, hb5⟩
      unfold tx
      go_wp2
      go_ret
      exact ⟨by rw [E.out]; rfl, hb.trans (hb5.mono hb.size)⟩

set_option maxHeartbeats 4000000 in
set_option maxRecDepth 16384 in
theorem sholdsText_any (A : Option Addr) (c : Nat) (l : List Ho) (w : World) (h : Sees w w.heap.size A (strip hcells l)) (hn : l.length ≤ 4194304) (hx : ∀ x ∈ l, HoOk x) :
    Calls Try.prog 69 #[.slice A l.length c] w fun e w' => e = .returned (tx (hols l)) ∧ Below w.heap.size w w' := by
  have HN := hid hn
  have HTL := hid (fun k => jn_len (holTs_len hx) k)
  have HOKS := hid hx
  clear hn hx
  go_enter Try.func69, Try.ntmps69
  go_wp2
  go_loopw [3, 4] (fun v i wr => ∃ (k : Nat) (T : List UInt8), k ≤ l.length ∧ i = .int .i64 k ∧ v = .string (ByteArray.mk T.toArray) ∧ Hid (jn (holTs l) k = T) ∧ Below w.heap.size w wr) (fun _ i _ => l.length - (intOf i).toNat)
  case atStart => exact ⟨0, [], Nat.zero_le _, rfl, rfl, hid rfl, Below.refl _ _⟩
  case round =>
    obtain ⟨k, T, hk, rfl, rfl, HT, hb⟩ := hrel
    have hn := HN.out
    by_cases hlt : k < l.length
    · have hi : (k : Int) < (l.length : Int) := by omega
      have hi0 : (0 : Int) ≤ (k : Int) := by omega
      obtain ⟨b, o, rfl, hbl, e0, e1⟩ := (h.below hb).hol hlt
      have HAT := hid (holTs_at hlt)
      have hok := HOKS.out _ (List.getElem_mem hlt)
      obtain ⟨x, hx⟩ : ∃ x, x = l[k] := ⟨_, rfl⟩
      rw [← hx] at e0 e1 HAT hok
      obtain ⟨a, d, ea, ed, ha, hd, la, ld, es⟩ := holT_len hok
      rw [ea] at e0
      rw [ed] at e1
      rw [es] at HAT
      clear hx hok es ea ed
      obtain ⟨D1, hD1⟩ : ∃ D, D = dec a := ⟨_, rfl⟩
      obtain ⟨D2, hD2⟩ : ∃ D, D = dec d := ⟨_, rfl⟩
      have H1 := hid hD1
      have H2 := hid hD2
      rw [← hD1] at la HAT
      rw [← hD2] at ld HAT
      clear hD1 hD2
      have hT := HTL.out k
      rw [HT.out] at hT
      have ha9 : a ≤ 1000000000 := by omega
      have hd9 : d ≤ 1000000000 := by omega
      have hz := hb.size
      have hbd : Below w.heap.size w wr.drew := hb.drew
      have hlt1 : b < wr.drew.heap.size := Nat.lt_of_lt_of_le hbl hbd.size
      have hTl : T.length ≤ 41943040 := by omega
      obtain ⟨U, hU, hUl, HS⟩ : ∃ U, U = (if k = 0 then T else T ++ [44]) ∧ U.length ≤ 41943041 ∧ Hid (jn (holTs l) (k + 1) = U ++ D1 ++ [58] ++ D2) := by
        refine ⟨_, rfl, ?_, hid ?_⟩
        · split
          · omega
          · simp; omega
        · by_cases hk0 : k = 0
          · subst hk0
            rw [if_pos rfl, jn_one, HAT.out, ← HT.out, jn_zero]
            simp
          · rw [if_neg hk0, jn_succ _ hk0, HT.out, HAT.out]
            simp
      have hs1 : ¬ U.length + D1.length > 9223372036854775807 := by omega
      have hs2 : ¬ U.length + D1.length + 1 > 9223372036854775807 := by omega
      have hs3 : ¬ U.length + D1.length + 1 + D2.length > 9223372036854775807 := by omega
      have hs0 : ¬ T.length + 1 > 9223372036854775807 := by omega
      have HK := hid (fun (q : Unit) => hk)
      rcases Nat.eq_zero_or_pos k with hk0 | hk0
      · have hkg : ¬ (k : Int) > 0 := by omega
        rw [if_pos hk0] at hU
        subst hU
        clear hk0 hTl hT hs0
        go_wp2_with fail
        go_region_held3 (fun w' => w'.cell? ⟨b, o + k * 2, none⟩ = some (.int .i64 (a : Int)) ∧ w'.cell? ⟨b, o + k * 2 + 1, none⟩ = some (.int .i64 (d : Int)))
          (first | with_reducible exact ⟨e0, e1⟩ | with_reducible exact ⟨p0, p1⟩ | with_reducible exact ⟨q0, q1⟩ | go_keep)
          (first
            | (go_at_call 56; (with_reducible refine (decimal_any a wr.drew ha9).mono ?_); rintro e w2 ⟨he, hb2⟩; rw [← H1.out] at he; subst he; have hbw2 := hbd.trans (hb2.mono hbd.size); have p0 := ((below_cell hb2).1 b (o + k * 2) hlt1).trans e0; have p1 := ((below_cell hb2).1 b (o + k * 2 + 1) hlt1).trans e1; have hlt2 := Nat.lt_of_lt_of_le hlt1 hb2.size; unfold tx)
            | (go_at_call 56; (with_reducible refine (decimal_any d w2 hd9).mono ?_); rintro e w3 ⟨he, hb3⟩; rw [← H2.out] at he; subst he; have hbw3 := hbw2.trans (hb3.mono hbw2.size); have q0 := ((below_cell hb3).1 b (o + k * 2) hlt2).trans p0; have q1 := ((below_cell hb3).1 b (o + k * 2 + 1) hlt2).trans p1; unfold tx)
            | fail)
        all_goals
          clear p0 p1 q0 q1 e0 e1
          go_wp2
          go_roundw
          case rel => exact ⟨k + 1, U ++ D1 ++ [58] ++ D2, by omega, by go_num, by rw [← tx_app, ← tx_app, ← tx_app], HS, hbw3⟩
          case measure => simp [intOf]; omega
      · have hkg : (k : Int) > 0 := by omega
        rw [if_neg (by omega)] at hU
        clear hk0 hTl hT
        go_wp2_with fail
        rw [show (ByteArray.mk #[44]) = ByteArray.mk ([44] : List UInt8).toArray from rfl]
        simp only [tx_app, ← hU]
        have HU := hid hU
        clear hU
        go_region_held3 (fun w' => w'.cell? ⟨b, o + k * 2, none⟩ = some (.int .i64 (a : Int)) ∧ w'.cell? ⟨b, o + k * 2 + 1, none⟩ = some (.int .i64 (d : Int)))
          (first | with_reducible exact ⟨e0, e1⟩ | with_reducible exact ⟨p0, p1⟩ | with_reducible exact ⟨q0, q1⟩ | go_keep)
          (first
            | (go_at_call 56; (with_reducible refine (decimal_any a wr.drew ha9).mono ?_); rintro e w2 ⟨he, hb2⟩; rw [← H1.out] at he; subst he; have hbw2 := hbd.trans (hb2.mono hbd.size); have p0 := ((below_cell hb2).1 b (o + k * 2) hlt1).trans e0; have p1 := ((below_cell hb2).1 b (o + k * 2 + 1) hlt1).trans e1; have hlt2 := Nat.lt_of_lt_of_le hlt1 hb2.size; unfold tx)
            | (go_at_call 56; (with_reducible refine (decimal_any d w2 hd9).mono ?_); rintro e w3 ⟨he, hb3⟩; rw [← H2.out] at he; subst he; have hbw3 := hbw2.trans (hb3.mono hbw2.size); have q0 := ((below_cell hb3).1 b (o + k * 2) hlt2).trans p0; have q1 := ((below_cell hb3).1 b (o + k * 2 + 1) hlt2).trans p1; unfold tx)
            | fail)
        all_goals
          clear p0 p1 q0 q1 e0 e1
          go_wp2
          go_roundw
          case rel => exact ⟨k + 1, U ++ D1 ++ [58] ++ D2, by omega, by go_num, by rw [← tx_app, ← tx_app, ← tx_app], HS, hbw3⟩
          case measure => simp [intOf]; omega
    · have hi : ¬ (k : Int) < (l.length : Int) := by omega
      have hke : k = l.length := by omega
      subst hke
      have E := hid (show hols l = T from HT.out)
      go_wp2
      go_ret
      exact ⟨by rw [E.out]; rfl, hb⟩

end Go.Proofs.Ytehdbllpiokbnaa
