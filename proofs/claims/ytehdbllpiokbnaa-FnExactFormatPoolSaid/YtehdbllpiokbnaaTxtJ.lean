/-
  What the model's FormatPool answers. Condition: the pool's lists lie in memory.
-/
import Derived.Test.YtehdbllpiokbnaaTxtI
import Derived.Test.YtehdbllpiokbnaaTxtG
import Derived.Test.YtehdbllpiokbnaaPlN
namespace Go.Proofs.Ytehdbllpiokbnaa
open Go.RowKit Txt Pol

set_option maxHeartbeats 4000000 in
set_option maxRecDepth 16384 in
theorem sformatPool_any (p : Pl) (A1 A2 A3 : Option Addr) (c1 c2 c3 : Nat) (w : World) (h : SeesP w w.heap.size A1 A2 A3 p) (h1 : p.idle.length ≤ 2097152) (h2 : p.held.length ≤ 2097152) (h3 : p.wait.length ≤ 2097152) (hv : okB p = true) :
    Calls Try.prog 34 #[.agg #[.int .i64 p.mx, .slice A1 p.idle.length c1, .slice A2 p.held.length c2, .slice A3 p.wait.length c3]] w fun e w' => e = .returned (tx (fmtP p)) ∧ Below w.heap.size w w' := by
  have px := At.new w 30 #[.int .i64 p.mx, .slice A1 p.idle.length c1, .slice A2 p.held.length c2, .slice A3 p.wait.length c3]
  have hb0 := (Below.refl w.heap.size w).alloc (Nat.le_refl _) (.cells #[.int .i64 p.mx, .slice A1 p.idle.length c1, .slice A2 p.held.length c2, .slice A3 p.wait.length c3] 30)
  have hs0 := h.on hb0
  obtain ⟨y0, y1, y2, y3⟩ := (⟨px.cell 0, px.cell 1, px.cell 2, px.cell 3⟩ : _ ∧ _ ∧ _ ∧ _)
  have hok := okB_iff.1 hv
  obtain ⟨k1, k2, k3⟩ := ok_nums hok
  obtain ⟨z1, z2, z3⟩ := hok.small
  have E := hid (fmtP_yes hv)
  have l1 := nums_len k1
  have l2 := hols_len k2
  have l3 := nums_len k3
  obtain ⟨m, hm⟩ : ∃ m : Nat, p.mx = m := ⟨p.mx.toNat, by have := hok.1; omega⟩
  have hm6 : m ≤ 6 := by have := hok.1; omega
  have hm9 : m ≤ 1000000000 := by omega
  have l0 := dec_len 0 m (by omega)
  have K1 := hid k1
  have K2 := hid k2
  have K3 := hid k3
  have e0 : p.mx.toNat = m := by omega
  rw [e0] at E
  obtain ⟨D0, hD0⟩ : ∃ D, D = dec m := ⟨_, rfl⟩
  obtain ⟨D1, hD1⟩ : ∃ D, D = nums p.idle := ⟨_, rfl⟩
  obtain ⟨D2, hD2⟩ : ∃ D, D = hols p.held := ⟨_, rfl⟩
  obtain ⟨D3, hD3⟩ : ∃ D, D = nums p.wait := ⟨_, rfl⟩
  rw [← hD0, ← hD1, ← hD2, ← hD3] at E
  rw [← hD0] at l0
  rw [← hD1] at l1
  rw [← hD2] at l2
  rw [← hD3] at l3
  have H0 := hid hD0
  have H1 := hid hD1
  have H2 := hid hD2
  have H3 := hid hD3
  have s1 : ¬ D0.length + 1 > 9223372036854775807 := by omega
  have s2 : ¬ D0.length + 1 + D1.length > 9223372036854775807 := by omega
  have s3 : ¬ D0.length + 1 + D1.length + 1 > 9223372036854775807 := by omega
  have s4 : ¬ D0.length + 1 + D1.length + 1 + D2.length > 9223372036854775807 := by omega
  have s5 : ¬ D0.length + 1 + D1.length + 1 + D2.length + 1 > 9223372036854775807 := by omega
  have s6 : ¬ D0.length + 1 + D1.length + 1 + D2.length + 1 + D3.length > 9223372036854775807 := by omega
  have HMX := hid hm
  clear hv hok k1 k2 k3 l0 l1 l2 l3 hD0 hD1 hD2 hD3 e0 hm6 hm
  have n1 : p.idle.length ≤ 4194304 := by omega
  have n2 : p.held.length ≤ 4194304 := by omega
  have n3 : p.wait.length ≤ 4194304 := by omega
  go_enter Try.func34, Try.ntmps34
  have px1 := px
  have hbd := hb0.drew
  have hsd := hs0.drew
  have pxd := px1.drew
  obtain ⟨w1, hw1⟩ : ∃ w1, w1 = w.alloc (.cells #[.int .i64 p.mx, .slice A1 p.idle.length c1, .slice A2 p.held.length c2, .slice A3 p.wait.length c3] 30) := ⟨_, rfl⟩
  go_wp2_with fail
  rw [← hw1] at px1 hbd hsd pxd ⊢
  clear hb0 hs0 px y0 y1 y2 y3 z1 z2 z3 hw1
  obtain ⟨y0, y1, y2, y3⟩ := (⟨px1.cell 0, px1.cell 1, px1.cell 2, px1.cell 3⟩ : _ ∧ _ ∧ _ ∧ _)
  rw [HMX.out] at y0
  go_region_held3 (fun w' => w'.cell? ⟨w.heap.size, 0, none⟩ = some (.int .i64 (m : Int)) ∧ w'.cell? ⟨w.heap.size, 1, none⟩ = some (.slice A1 p.idle.length c1) ∧ w'.cell? ⟨w.heap.size, 2, none⟩ = some (.slice A2 p.held.length c2) ∧ w'.cell? ⟨w.heap.size, 3, none⟩ = some (.slice A3 p.wait.length c3))
    (first | with_reducible exact ⟨y0, y1, y2, y3⟩ | with_reducible exact ⟨d0, d1, d2, d3⟩ | with_reducible exact ⟨a0, a1, a2, a3⟩ | with_reducible exact ⟨b0, b1, b2, b3⟩ | with_reducible exact ⟨q0, q1, q2, q3⟩ | go_keep)
    (first
      | (go_at_call 56; (with_reducible refine (decimal_any m w1.drew hm9).mono ?_); rintro e wz ⟨he, hbz⟩; rw [← H0.out] at he; subst he; have pxz := pxd.below hbz pxd.lt; have hsz := hsd.on hbz; have hbwz := hbd.trans (hbz.mono hbd.size); obtain ⟨d0, d1, d2, d3⟩ := (⟨pxz.cell 0, pxz.cell 1, pxz.cell 2, pxz.cell 3⟩ : _ ∧ _ ∧ _ ∧ _); rw [HMX.out] at d0; unfold tx)
      | (go_at_call 68; (with_reducible refine (listText_any A1 c1 p.idle wz hsz.idle n1 K1.out).mono ?_); rintro e wa ⟨he, hba⟩; rw [← H1.out] at he; subst he; have pxa := pxz.below hba pxz.lt; have hsa := hsz.on hba; have hbwa := hbwz.trans (hba.mono hbwz.size); obtain ⟨a0, a1, a2, a3⟩ := (⟨pxa.cell 0, pxa.cell 1, pxa.cell 2, pxa.cell 3⟩ : _ ∧ _ ∧ _ ∧ _); rw [HMX.out] at a0; unfold tx)
      | (go_at_call 69; (with_reducible refine (sholdsText_any A2 c2 p.held wa hsa.held n2 K2.out).mono ?_); rintro e wb ⟨he, hbb⟩; rw [← H2.out] at he; subst he; have pxb := pxa.below hbb pxa.lt; have hsb := hsa.on hbb; have hbwb := hbwa.trans (hbb.mono hbwa.size); obtain ⟨b0, b1, b2, b3⟩ := (⟨pxb.cell 0, pxb.cell 1, pxb.cell 2, pxb.cell 3⟩ : _ ∧ _ ∧ _ ∧ _); rw [HMX.out] at b0; unfold tx)
      | (go_at_call 68; (with_reducible refine (listText_any A3 c3 p.wait wb hsb.wait n3 K3.out).mono ?_); rintro e wc ⟨he, hbc⟩; rw [← H3.out] at he; subst he; have pxc := pxb.below hbc pxb.lt; have hsc := hsb.on hbc; have hbwc := hbwb.trans (hbc.mono hbwb.size); obtain ⟨q0, q1, q2, q3⟩ := (⟨pxc.cell 0, pxc.cell 1, pxc.cell 2, pxc.cell 3⟩ : _ ∧ _ ∧ _ ∧ _); rw [HMX.out] at q0; unfold tx)
      | fail)
  all_goals
    clear y0 y1 y2 y3 d0 d1 d2 d3 a0 a1 a2 a3 b0 b1 b2 b3 q0 q1 q2 q3
    go_wp2
    go_ret
    exact ⟨by rw [E.out]; unfold tx; rw [← tx_app, ← tx_app, ← tx_app, ← tx_app, ← tx_app, ← tx_app]; rfl, hbwc⟩

set_option maxHeartbeats 4000000 in
theorem sFormatPool_any (p : Pl) (A1 A2 A3 : Option Addr) (c1 c2 c3 : Nat) (w : World) (h : SeesP w w.heap.size A1 A2 A3 p) (h1 : p.idle.length ≤ 2097152) (h2 : p.held.length ≤ 2097152) (h3 : p.wait.length ≤ 2097152) :
    Calls Try.prog 9 #[.agg #[.int .i64 p.mx, .slice A1 p.idle.length c1, .slice A2 p.held.length c2, .slice A3 p.wait.length c3]] w fun e w' => e = .returned (tx (fmtP p)) ∧ Below w.heap.size w w' := by
  have px := At.new w 30 #[.int .i64 p.mx, .slice A1 p.idle.length c1, .slice A2 p.held.length c2, .slice A3 p.wait.length c3]
  have hb0 := (Below.refl w.heap.size w).alloc (Nat.le_refl _) (.cells #[.int .i64 p.mx, .slice A1 p.idle.length c1, .slice A2 p.held.length c2, .slice A3 p.wait.length c3] 30)
  have hs0 := h.on hb0
  obtain ⟨y0, y1, y2, y3⟩ := (⟨px.cell 0, px.cell 1, px.cell 2, px.cell 3⟩ : _ ∧ _ ∧ _ ∧ _)
  rcases hv : okB p with _ | _
  · have E := hid (fmtP_no hv)
    have HV := hid hv
    clear hv
    go_enter Try.func9, Try.ntmps9
    go_wp2_with fail
    with_reducible refine (svalidPool_any p A1 A2 A3 c1 c2 c3 _ hs0 h1 h2 (Nat.le_trans h3 (by decide))).mono ?_
    rintro e w1 ⟨he, hb1⟩
    rw [HV.out] at he
    subst he
    go_wp2
    go_ret
    exact ⟨by rw [E.out]; rfl, hb0.trans (hb1.mono hb0.size)⟩
  have HV := hid hv
  have HO := hid hv
  clear hv
  go_enter Try.func9, Try.ntmps9
  go_wp2_with fail
  with_reducible refine (svalidPool_any p A1 A2 A3 c1 c2 c3 _ hs0 h1 h2 (Nat.le_trans h3 (by decide))).mono ?_
  rintro e w1 ⟨he, hb1⟩
  rw [HV.out] at he
  subst he
  have px1 := px.below hb1 px.lt
  have hB1 := hb0.trans (hb1.mono hb0.size)
  have hs1 := hs0.on hb1
  clear px hb0 hs0 hb1 y0 y1 y2 y3
  obtain ⟨y0, y1, y2, y3⟩ := (⟨px1.cell 0, px1.cell 1, px1.cell 2, px1.cell 3⟩ : _ ∧ _ ∧ _ ∧ _)
  go_wp2_with fail
  with_reducible refine (sformatPool_any p A1 A2 A3 c1 c2 c3 _ hs1 h1 h2 h3 HO.out).mono ?_
  rintro e w2 ⟨rfl, hb2⟩
  go_wp2
  go_ret
  exact ⟨rfl, hB1.trans (hb2.mono hB1.size)⟩

end Go.Proofs.Ytehdbllpiokbnaa
