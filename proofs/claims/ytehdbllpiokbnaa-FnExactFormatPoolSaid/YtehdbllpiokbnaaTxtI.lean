/-
  What FormatPool answers, the program's. Condition: the pool's lists lie in memory.
-/
import Derived.Test.YtehdbllpiokbnaaTxtH
import Derived.Test.YtehdbllpiokbnaaTxtF
import Derived.Test.YtehdbllpiokbnaaPlF
namespace Go.Proofs.Ytehdbllpiokbnaa
open Go.RowKit Txt Pol

def fmtP (p : Pl) : List UInt8 := if okB p = true then dec p.mx.toNat ++ [32] ++ nums p.idle ++ [124] ++ hols p.held ++ [124] ++ nums p.wait else []
theorem fmtP_yes {p : Pl} (h : okB p = true) : fmtP p = dec p.mx.toNat ++ [32] ++ nums p.idle ++ [124] ++ hols p.held ++ [124] ++ nums p.wait := if_pos h
theorem fmtP_no {p : Pl} (h : okB p = false) : fmtP p = [] := if_neg (by simp [h])
theorem ok_nums {p : Pl} (h : Ok p) : (∀ x ∈ p.idle, 0 ≤ x ∧ x ≤ 9999) ∧ (∀ x ∈ p.held, HoOk x) ∧ ∀ x ∈ p.wait, 0 ≤ x ∧ x ≤ 9999 := by
  obtain ⟨⟨h0, h1⟩, _, h3, h4, _, h6, _⟩ := h
  refine ⟨fun x hx => ?_, fun x hx => ?_, fun x hx => ?_⟩
  · have := h3 x (by unfold opens; simp [hx]); omega
  · have a := h3 x.c (by unfold opens; exact List.mem_append.2 (.inr (List.mem_map_of_mem hx)))
    have b := h4 x.o (List.mem_map_of_mem hx)
    exact ⟨⟨by omega, by omega⟩, by omega, by omega⟩
  · have := h6 x hx; omega
theorem nums_len {l : List Int} (h : ∀ x ∈ l, 0 ≤ x ∧ x ≤ 9999) : (nums l).length ≤ 5 * l.length := jn_len (numTs_len h) l.length
theorem hols_len {l : List Ho} (h : ∀ x ∈ l, HoOk x) : (hols l).length ≤ 10 * l.length := jn_len (holTs_len h) l.length
set_option maxHeartbeats 4000000 in
set_option maxRecDepth 16384 in
theorem iFormatPool_any (p : Pl) (A1 A2 A3 : Option Addr) (c1 c2 c3 : Nat) (w : World) (h : SeesP w w.heap.size A1 A2 A3 p) (h1 : p.idle.length ≤ 2097152) (h2 : p.held.length ≤ 2097152) (h3 : p.wait.length ≤ 2097152) :
    Calls Try.prog 11 #[.agg #[.int .i64 p.mx, .slice A1 p.idle.length c1, .slice A2 p.held.length c2, .slice A3 p.wait.length c3]] w fun e w' => e = .returned (tx (fmtP p)) ∧ Below w.heap.size w w' := by
  have px := At.new w 30 #[.int .i64 p.mx, .slice A1 p.idle.length c1, .slice A2 p.held.length c2, .slice A3 p.wait.length c3]
  have hb0 := (Below.refl w.heap.size w).alloc (Nat.le_refl _) (.cells #[.int .i64 p.mx, .slice A1 p.idle.length c1, .slice A2 p.held.length c2, .slice A3 p.wait.length c3] 30)
  have hs0 := h.on hb0
  obtain ⟨y0, y1, y2, y3⟩ := (⟨px.cell 0, px.cell 1, px.cell 2, px.cell 3⟩ : _ ∧ _ ∧ _ ∧ _)
  rcases hv : okB p with _ | _
  · have E := hid (fmtP_no hv)
    have HV := hid hv
    clear hv
    go_enter Try.func11, Try.ntmps11
    go_wp2_with fail
    with_reducible refine (iValidPool_any p A1 A2 A3 c1 c2 c3 _ hs0 h1 h2 (Nat.le_trans h3 (by decide))).mono ?_
    rintro e w1 ⟨he, hb1⟩
    rw [HV.out] at he
    subst he
    go_wp2
    go_ret
    exact ⟨by rw [E.out]; rfl, hb0.trans (hb1.mono hb0.size)⟩
  have hok := okB_iff.1 hv
  obtain ⟨k1, k2, k3⟩ := ok_nums hok
  obtain ⟨z1, z2, z3⟩ := hok.small
  have E := hid (fmtP_yes hv)
  have HV := hid hv
  have l1 := nums_len k1
  have l2 := hols_len k2
  have l3 := nums_len k3
  obtain ⟨m, hm⟩ : ∃ m : Nat, p.mx = m := ⟨p.mx.toNat, by have := hok.1; omega⟩
  have hm6 : m ≤ 6 := by have := hok.1; omega
  have hm9 : m ≤ 1000000000 := by omega
  have l0 := dec_len 0 m (by omega)
  have K1 := hid k1
  have K2 := hid k2
  have K3 := hid k3
  have e0 : p.mx.toNat = m := by omega
  rw [e0] at E
  obtain ⟨D0, hD0⟩ : ∃ D, D = dec m := ⟨_, rfl⟩
  obtain ⟨D1, hD1⟩ : ∃ D, D = nums p.idle := ⟨_, rfl⟩
  obtain ⟨D2, hD2⟩ : ∃ D, D = hols p.held := ⟨_, rfl⟩
  obtain ⟨D3, hD3⟩ : ∃ D, D = nums p.wait := ⟨_, rfl⟩
  rw [← hD0, ← hD1, ← hD2, ← hD3] at E
  rw [← hD0] at l0
  rw [← hD1] at l1
  rw [← hD2] at l2
  rw [← hD3] at l3
  have H0 := hid hD0
  have H1 := hid hD1
  have H2 := hid hD2
  have H3 := hid hD3
  have s1 : ¬ D0.length + 1 > 9223372036854775807 := by omega
  have s2 : ¬ D0.length + 1 + D1.length > 9223372036854775807 := by omega
  have s3 : ¬ D0.length + 1 + D1.length + 1 > 9223372036854775807 := by omega
  have s4 : ¬ D0.length + 1 + D1.length + 1 + D2.length > 9223372036854775807 := by omega
  have s5 : ¬ D0.length + 1 + D1.length + 1 + D2.length + 1 > 9223372036854775807 := by omega
  have s6 : ¬ D0.length + 1 + D1.length + 1 + D2.length + 1 + D3.length > 9223372036854775807 := by omega
  have HMX := hid hm
  clear hv hok k1 k2 k3 l0 l1 l2 l3 hD0 hD1 hD2 hD3 e0 hm6 hm
  have n1 : p.idle.length ≤ 4194304 := by omega
  have n2 : p.held.length ≤ 4194304 := by omega
  have n3 : p.wait.length ≤ 4194304 := by omega
  go_enter Try.func11, Try.ntmps11
  go_wp2_with fail
  with_reducible refine (iValidPool_any p A1 A2 A3 c1 c2 c3 _ hs0 h1 h2 (Nat.le_trans h3 (by decide))).mono ?_
  rintro e w1 ⟨he, hb1⟩
  rw [HV.out] at he
  subst he
  have px1 := px.below hb1 px.lt
  have hbd := (hb0.trans (hb1.mono hb0.size)).drew
  have hsd := (hs0.on hb1).drew
  have pxd := px1.drew
  clear hb0 hs0 px hb1 y0 y1 y2 y3 z1 z2 z3
  obtain ⟨y0, y1, y2, y3⟩ := (⟨px1.cell 0, px1.cell 1, px1.cell 2, px1.cell 3⟩ : _ ∧ _ ∧ _ ∧ _)
  rw [HMX.out] at y0
  go_wp2_with fail
  go_region_held3 (fun w' => w'.cell? ⟨w.heap.size, 0, none⟩ = some (.int .i64 (m : Int)) ∧ w'.cell? ⟨w.heap.size, 1, none⟩ = some (.slice A1 p.idle.length c1) ∧ w'.cell? ⟨w.heap.size, 2, none⟩ = some (.slice A2 p.held.length c2) ∧ w'.cell? ⟨w.heap.size, 3, none⟩ = some (.slice A3 p.wait.length c3))
    (first | with_reducible exact ⟨y0, y1, y2, y3⟩ | with_reducible exact ⟨a0, a1, a2, a3⟩ | with_reducible exact ⟨b0, b1, b2, b3⟩ | with_reducible exact ⟨q0, q1, q2, q3⟩ | go_keep)
    (first
      | (go_at_call 38; (with_reducible refine (numberText_any m _ hm9).mono ?_); rintro e w' ⟨he, rfl⟩; rw [← H0.out] at he; subst he; unfold tx)
      | (go_at_call 39; (with_reducible refine (numbersText_any A1 c1 p.idle w1.drew hsd.idle n1 K1.out).mono ?_); rintro e wa ⟨he, hba⟩; rw [← H1.out] at he; subst he; have pxa := pxd.below hba pxd.lt; have hsa := hsd.on hba; have hbwa := hbd.trans (hba.mono hbd.size); obtain ⟨a0, a1, a2, a3⟩ := (⟨pxa.cell 0, pxa.cell 1, pxa.cell 2, pxa.cell 3⟩ : _ ∧ _ ∧ _ ∧ _); rw [HMX.out] at a0; unfold tx)
      | (go_at_call 40; (with_reducible refine (iholdsText_any A2 c2 p.held wa hsa.held n2 K2.out).mono ?_); rintro e wb ⟨he, hbb⟩; rw [← H2.out] at he; subst he; have pxb := pxa.below hbb pxa.lt; have hsb := hsa.on hbb; have hbwb := hbwa.trans (hbb.mono hbwa.size); obtain ⟨b0, b1, b2, b3⟩ := (⟨pxb.cell 0, pxb.cell 1, pxb.cell 2, pxb.cell 3⟩ : _ ∧ _ ∧ _ ∧ _); rw [HMX.out] at b0; unfold tx)
      | (go_at_call 39; (with_reducible refine (numbersText_any A3 c3 p.wait wb hsb.wait n3 K3.out).mono ?_); rintro e wc ⟨he, hbc⟩; rw [← H3.out] at he; subst he; have pxc := pxb.below hbc pxb.lt; have hbwc := hbwb.trans (hbc.mono hbwb.size); obtain ⟨q0, q1, q2, q3⟩ := (⟨pxc.cell 0, pxc.cell 1, pxc.cell 2, pxc.cell 3⟩ : _ ∧ _ ∧ _ ∧ _); rw [HMX.out] at q0; unfold tx)
      | fail)
  all_goals
    clear y0 y1 y2 y3 a0 a1 a2 a3 b0 b1 b2 b3 q0 q1 q2 q3
    go_wp2
    go_ret
    exact ⟨by rw [E.out]; unfold tx; rw [← tx_app, ← tx_app, ← tx_app, ← tx_app, ← tx_app, ← tx_app]; rfl, hbwc⟩

end Go.Proofs.Ytehdbllpiokbnaa
