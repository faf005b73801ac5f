/-
  What FormatSettings answers, the program's and the model's. Condition: the settings lie in memory.
-/
import Derived.Test.YtehdbllpiokbnabTxtC
import Derived.Test.YtehdbllpiokbnabStD
import Derived.Deep.RegionHeldLaw

namespace Go.Proofs.Ytehdbllpiokbnab
open Go.RowKit Txt Stt

/-- The text of a setting. -/
def setT (x : Stg) : List UInt8 := dec x.n.toNat ++ [61] ++ dec x.v.toNat
def setTs (l : List Stg) : List (List UInt8) := l.map setT
def fmtS (l : List Stg) : List UInt8 := if setsB l = true then jn (setTs l) l.length else []
theorem fmtS_yes {l : List Stg} (h : setsB l = true) : fmtS l = jn (setTs l) l.length := if_pos h
theorem fmtS_no {l : List Stg} (h : setsB l = false) : fmtS l = [] := if_neg (by simp [h])
theorem setTs_at {l : List Stg} {k : Nat} (h : k < l.length) : (setTs l).getD k [] = setT l[k] := by unfold setTs; simp [List.getD_eq_getElem?_getD, h]
theorem setT_len {x : Stg} (h : x.ok) : ∃ a b : Nat, x.n = a ∧ x.v = b ∧ a ≤ 9 ∧ b ≤ 20 ∧ (dec a).length ≤ 2 ∧ (dec b).length ≤ 2 ∧ setT x = dec a ++ [61] ++ dec b := by
  obtain ⟨⟨h1, h2⟩, h3, h4⟩ := h
  refine ⟨x.n.toNat, x.v.toNat, by omega, by omega, by omega, by omega, dec_len 1 _ (by omega), dec_len 1 _ (by omega), rfl⟩
theorem setTs_len {l : List Stg} (h : setsB l = true) : ∀ t ∈ setTs l, t.length ≤ 5 := fun t ht => by
  obtain ⟨x, hx, rfl⟩ := List.mem_map.1 ht
  obtain ⟨a, b, _, _, _, _, h1, h2, e⟩ := setT_len ((setsB_iff.1 h).1 x hx)
  rw [e, List.length_append, List.length_append, List.length_singleton]; omega
set_option maxHeartbeats 4000000 in
set_option maxRecDepth 16384 in
theorem iFormatSettings_any (A : Option Addr) (c : Nat) (l : List Stg) (w : World) (h : Sees w w.heap.size A (strip stcl l)) (hn : l.length ≤ 4194304) :
    Calls Try.prog 17 #[.slice A l.length c] w fun e w' => e = .returned (tx (fmtS l)) ∧ Below w.heap.size w w' := by
  obtain ⟨i0, hi0, hz0, hz1, hz2⟩ := info_parts strInfo
  have HN := hid hn
  clear hn
  rcases hv : setsB l with _ | _
  · have E := hid (fmtS_no hv)
    have HV := hid hv
    clear hv
    go_enter Try.func17, Try.ntmps17
    go_wp2_with fail
    with_reducible refine (iValidSettings_any A c l _ h HN.out).mono ?_
    rintro e w1 ⟨he, hb1⟩
    rw [HV.out] at he
    subst he
    go_wp2
    go_ret
    exact ⟨by rw [E.out]; rfl, hb1⟩
  have E := hid (fmtS_yes hv)
  have HV := hid hv
  have HTL := hid (setTs_len hv)
  have HOKS := hid ((setsB_iff.1 hv).1)
  have HLN : Hid ((setTs l).length = l.length) := hid (by unfold setTs; simp)
  clear hv
  go_enter Try.func17, Try.ntmps17
  go_wp2_with fail
  with_reducible refine (iValidSettings_any A c l _ h HN.out).mono ?_
  rintro e w1 ⟨he, hb1⟩
  rw [HV.out] at he
  subst he
  go_wp2
  go_loopw [3, 11] (fun v i wr => ∃ k : Nat, k ≤ l.length ∧ i = .int .i64 k ∧ OwnS 9 1 tcell wr w.heap.size v ((setTs l).take k) ∧ Below w.heap.size w wr) (fun _ i _ => l.length - (intOf i).toNat)
  case atStart => exact ⟨0, Nat.zero_le _, rfl, OwnS.none_ _ _, hb1⟩
  case round =>
    clear hb1
    obtain ⟨k, hk, rfl, ho, hb⟩ := hrel
    have hn := HN.out
    by_cases hlt : k < l.length
    · have hi : (k : Int) < (l.length : Int) := by omega
      obtain ⟨b, o, rfl, hbl, e0, e1⟩ := (h.below hb).stg hlt
      have HT : Hid ((setTs l).take (k + 1) = (setTs l).take k ++ [setT l[k]]) := hid (by
        rw [List.take_succ_eq_append_getElem (by rw [HLN.out]; exact hlt)]
        rw [show (setTs l)[k]'(by rw [HLN.out]; exact hlt) = setT l[k] by unfold setTs; rw [List.getElem_map]])
      have HKL : Hid (((setTs l).take k).length = k) := hid (by rw [List.length_take, HLN.out]; omega)
      have hok := HOKS.out _ (List.getElem_mem hlt)
      obtain ⟨x, hx⟩ : ∃ x, x = l[k] := ⟨_, rfl⟩
      rw [← hx] at e0 e1 HT hok
      obtain ⟨a, d, ea, ed, ha, hd, la, ld, es⟩ := setT_len hok
      rw [ea] at e0
      rw [ed] at e1
      rw [es] at HT
      clear hx hok es ea ed
      obtain ⟨D1, hD1⟩ : ∃ D, D = dec a := ⟨_, rfl⟩
      obtain ⟨D2, hD2⟩ : ∃ D, D = dec d := ⟨_, rfl⟩
      have H1 := hid hD1
      have H2 := hid hD2
      rw [← hD1] at la HT
      rw [← hD2] at ld HT
      clear hD1 hD2
      have hs1 : ¬ D1.length + 1 > 9223372036854775807 := by omega
      have hs2 : ¬ D1.length + 1 + D2.length > 9223372036854775807 := by omega
      have hs3 : ¬ 9223372036854775807 ≤ D1.length := by omega
      have hs4 : D1.length + 1 ≤ 9223372036854775807 := by omega
      have hs5 : D1.length + 1 + D2.length ≤ 9223372036854775807 := by omega
      have hz := hb.size
      have px := At.new wr 68 #[.int .i64 (a : Int), .int .i64 (d : Int)]
      have hba := hb.alloc hz (.cells #[.int .i64 (a : Int), .int .i64 (d : Int)] 68)
      have hoo := OwnS.below ho ((Below.refl _ _).alloc (Nat.le_refl _) (.cells #[.int .i64 (a : Int), .int .i64 (d : Int)] 68))
      obtain ⟨p0, p1⟩ := (⟨px.cell 0, px.cell 1⟩ : _ ∧ _)
      have pl := px.lt
      have ha9 : a ≤ 1000000000 := by omega
      have hd9 : d ≤ 1000000000 := by omega
      clear ho hb la ld
      go_wp2_with fail
      obtain ⟨W, hW⟩ : ∃ W, W = wr.alloc (.cells #[.int .i64 (a : Int), .int .i64 (d : Int)] 68) := ⟨_, rfl⟩
      rw [← hW] at hba hoo px p0 p1 pl ⊢
      clear hW
      have hzW := hba.size
      have hown : OwnS 9 1 tcell W.drew w.heap.size _ ((setTs l).take k) := OwnS.below hoo (Below.refl _ _).drew
      unfold OwnS at hown
      rw [HKL.out] at hown
      have pxd := px.drew
      go_region_held_law (fun w' => w'.cell? ⟨wr.heap.size, 0, none⟩ = some (.int .i64 (a : Int)) ∧ w'.cell? ⟨wr.heap.size, 1, none⟩ = some (.int .i64 (d : Int)))
        (first | with_reducible exact ⟨p0, p1⟩ | with_reducible exact ⟨q0, q1⟩ | go_keep)
        (first
          | (go_at_call 24; (with_reducible refine (numberText_any a _ ha9).mono ?_); rintro e w' ⟨he, rfl⟩; rw [← H1.out] at he; subst he; unfold tx)
          | (go_at_call 24; (with_reducible refine (numberText_any d _ hd9).mono ?_); rintro e w' ⟨he, rfl⟩; rw [← H2.out] at he; subst he; unfold tx)
          | (refine step_append_own _ (by rfl) _ _ 48 (by rfl) w.heap.size 9 i0 (.string ⟨#[]⟩) 1 16 Try.underlying48 hi0 hz0 hz1 hz2 rfl (by decide) _ k (strip tcell ((setTs l).take k)) (by rfl) (own_alloc hown _) ⟨W.heap.size, 0, none⟩ 1 1 [.string (ByteArray.mk D1.toArray ++ ByteArray.mk #[61] ++ ByteArray.mk D2.toArray)] (by rfl) (by rfl) (by exact cells_new W.drew _ _) (fun u hu => by rw [List.mem_singleton.1 hu]; rfl) (by unfold maxLen; omega) (by omega) (by simp; omega) ?_; intro v2 w4 h2 hg2; have hbx : Below w.heap.size W w4 := ((Below.refl _ _).drew.alloc (by simpa using hzW) _).grown hg2 (by simp; omega) (fun q hq => (hown.lt q hq).1); have pq := (pxd.alloc _).beside (own_alloc hown _) (by decide) hg2; have q0 := pq.cell 0; have q1 := pq.cell 1)
          | fail)
      all_goals
        have ho2 : OwnS 9 1 tcell w4 w.heap.size v2 ((setTs l).take (k + 1)) := by
          rw [HT.out]
          unfold OwnS
          rw [List.length_append, HKL.out, strip_snoc]
          have e : tcell (D1 ++ [61] ++ D2) = [.string (ByteArray.mk D1.toArray ++ ByteArray.mk #[61] ++ ByteArray.mk D2.toArray)] := by
            unfold tcell tx
            rw [show (ByteArray.mk #[61]) = ByteArray.mk ([61] : List UInt8).toArray from rfl, tx_app, tx_app]
          rw [e]
          exact h2
        have hb2 : Below w.heap.size w w4 := hba.trans hbx
        clear h2 hg2 hbx pq q0 q1 p0 p1 px pxd hown
        go_wp2
        go_roundw
        case rel => exact ⟨k + 1, by omega, by go_num, ho2, hb2⟩
        case measure => simp [intOf]; omega
    · have hi : ¬ (k : Int) < (l.length : Int) := by omega
      have hke : k = l.length := by omega
      subst hke
      have HTK := hid (show (setTs l).take l.length = setTs l from List.take_of_length_le (by rw [HLN.out]; exact Nat.le_refl _))
      rw [HTK.out] at ho
      obtain ⟨A3, c3, rfl, _, _, hs3⟩ := OwnS.form ho
      have hl4 : (setTs l).length ≤ 4194304 := by rw [HLN.out]; exact hn
      rw [HLN.out]
      have HTLo := HTL.out
      rw [← HLN.out] at E ⊢
      obtain ⟨Q, hQ⟩ : ∃ Q, Q = setTs l := ⟨_, rfl⟩
      rw [← hQ] at hs3 hl4 E HTLo ⊢
      clear hQ ho HTK HLN HTL
      go_wp2_with fail
      with_reducible refine (joinTexts_any A3 c3 5 Q _ hs3 hl4 HTLo (by decide)).mono ?_
      rintro e w5 ⟨rfl, hb5⟩
      unfold tx
      go_wp2
      go_ret
      exact ⟨by rw [E.out]; rfl, hb.trans (hb5.mono hb.size)⟩

end Go.Proofs.Ytehdbllpiokbnab
