/-
  What the program's openConns and allDifferent answer. Condition: the lists lie in memory.
-/
import Derived.Test.YtehdbllpiokbnaaPlB

namespace Go.Proofs.Ytehdbllpiokbnaa
open Go.RowKit Pol

/-- A block that holds a pool's four cells. -/
theorem At.pool {w : World} {g : Nat} {p : Pl} {A1 A2 A3 : Option Addr} {c1 c2 c3 : Nat} (h : At w g 30 #[.int .i64 p.mx, .slice A1 p.idle.length c1, .slice A2 p.held.length c2, .slice A3 p.wait.length c3]) :
    w.cell? ⟨g, 0, none⟩ = some (.int .i64 p.mx) ∧ w.cell? ⟨g, 1, none⟩ = some (.slice A1 p.idle.length c1) ∧ w.cell? ⟨g, 2, none⟩ = some (.slice A2 p.held.length c2) ∧ w.cell? ⟨g, 3, none⟩ = some (.slice A3 p.wait.length c3) ∧ g < w.heap.size :=
  ⟨h.cell 0, h.cell 1, h.cell 2, h.cell 3, h.lt⟩
theorem opens_take (p : Pl) (k : Nat) (hk : k < (p.held.map Ho.c).length) : p.idle ++ (p.held.map Ho.c).take (k + 1) = p.idle ++ (p.held.map Ho.c).take k ++ [(p.held.map Ho.c)[k]] := by
  rw [List.take_succ_eq_append_getElem hk, List.append_assoc]

theorem Sees.itake {w : World} {B : Nat} {A : Option Addr} {l : List Int} (h : Sees w B A (ints l)) (k : Nat) : Sees w B A (ints (l.take k)) := by
  have e : ints (l.take k) = (ints l).take k := by simp [ints]
  rw [e]; exact h.take k
theorem nodup_step {l : List Int} {k : Nat} (hk : k < l.length) (h : (l.take k).Nodup) (hx : l[k] ∉ l.take k) : (l.take (k + 1)).Nodup := by
  rw [List.take_succ_eq_append_getElem hk]
  exact List.nodup_append.2 ⟨h, by simp, fun a ha b hb => by rw [List.mem_singleton] at hb; subst hb; exact fun e => hx (e ▸ ha)⟩
theorem nodup_not {l : List Int} {k : Nat} (hk : k < l.length) (h : l[k] ∈ l.take k) : decide l.Nodup = false := by
  refine decide_eq_false fun hn => ?_
  have h1 : (l.take (k + 1)).Nodup := hn.sublist (List.take_sublist _ _)
  rw [List.take_succ_eq_append_getElem hk] at h1
  exact (List.nodup_append.1 h1).2.2 _ h _ (by simp) rfl
theorem far_step {v v' a : Value} {n : Nat} (h : Far v a) (h1 : v'.ownBlock = v.ownBlock ∨ v'.ownBlock = some n) (h2 : ∀ k, a.ownBlock = some k → k < n) : Far v' a := by
  intro k hk hk'
  rcases h1 with e | e
  · exact h k (e ▸ hk) hk'
  · rw [e] at hk
    injection hk with hk
    have := h2 k hk'
    omega
theorem placeOf_len {A : Option Addr} {n c : Nat} {l : List Int} {x : Int} {w : World} {B : Nat} (hl : l.length = n) (h : Sees w B A (ints l)) (hn : l.length ≤ 4611686018427387904) :
    Calls Try.prog 85 #[.slice A n c, .int .i64 x] w fun e w' => e = .returned (.int .i64 (Line.place l x)) ∧ w = w' := by
  subst hl; exact placeOf_any A c l x w h hn
set_option maxHeartbeats 2000000 in
theorem openConns_any (p : Pl) (A1 A2 A3 : Option Addr) (c1 c2 c3 : Nat) (w : World) (h : SeesP w w.heap.size A1 A2 A3 p) (h1 : p.idle.length ≤ 2097152) (h2 : p.held.length ≤ 2097152) :
    Calls Try.prog 71 #[.agg #[.int .i64 p.mx, .slice A1 p.idle.length c1, .slice A2 p.held.length c2, .slice A3 p.wait.length c3]] w fun e w' => ∃ v, e = .returned v ∧ Own w' w.heap.size v (opens p) ∧ Below w.heap.size w w' := by
  obtain ⟨i0, hi0, hz0, hz1, hz2⟩ := info_parts intInfo
  have H1 := hid h1
  have H2 := hid h2
  clear h1 h2
  have px := At.new w 30 #[.int .i64 p.mx, .slice A1 p.idle.length c1, .slice A2 p.held.length c2, .slice A3 p.wait.length c3]
  have hb0 := (Below.refl w.heap.size w).alloc (Nat.le_refl _) (.cells #[.int .i64 p.mx, .slice A1 p.idle.length c1, .slice A2 p.held.length c2, .slice A3 p.wait.length c3] 30)
  have hs0 := h.on hb0
  obtain ⟨p0, p1, p2, p3, pl⟩ := px.pool
  go_enter Try.func71, Try.ntmps71
  go_wp2_with fail
  refine (copyNumbers_any A1 c1 p.idle _ hs0.idle (Nat.le_trans H1.out (by decide))).mono ?_
  rintro e w1 ⟨v1, rfl, ho1, hb1⟩
  have px1 := px.below hb1 px.lt
  have hbw1 := hb0.trans (hb1.mono hb0.size)
  have hs1 := hs0.on hb1
  have ho1' := ho1.mono hb0.size
  clear px p0 p1 p2 p3 pl hb0 hs0 hb1 ho1
  obtain ⟨p0, p1, p2, p3, pl⟩ := px1.pool
  go_wp2_with fail
  refine (heldConns_any A2 c2 p.held _ hs1.held (Nat.le_trans H2.out (by decide))).mono ?_
  rintro e w2 ⟨v2, rfl, ho2, hb2⟩
  have hbw2 := hbw1.trans (hb2.mono hbw1.size)
  have ho1 := ho1'.below hb2
  have ho1b := ho1'
  have hbw1s := hbw1.size
  have HL := hid (show (p.held.map Ho.c).length ≤ 2097152 by simpa using H2.out)
  have HT := hid (fun k hk => opens_take p k hk)
  have HO : Hid (p.idle ++ (p.held.map Ho.c) = opens p) := hid rfl
  obtain ⟨M, hM⟩ : ∃ M, M = p.held.map Ho.c := ⟨_, rfl⟩
  rw [← hM] at ho2 HL HT HO
  clear px1 p0 p1 p2 p3 pl hs1 hb2 ho1' hbw1 hM
  obtain ⟨A4, c4, rfl, _⟩ := ho2.form
  have hfar : Far v1 (.slice A4 M.length c4) := fun k hk hk' => by
    have a1 := (ho1b.out.lt k hk).2
    have a2 := (ho2.out.lt k hk').1
    omega
  have HB2 := hid hbw1s
  clear ho1b hbw1s
  go_wp2
  go_loopw [3, 13] (fun v i wr => ∃ k : Nat, k ≤ M.length ∧ i = .int .i64 k ∧ Own wr w.heap.size v (p.idle ++ M.take k) ∧ Own wr w1.heap.size (.slice A4 M.length c4) M ∧ Far v (.slice A4 M.length c4) ∧ Below w.heap.size w wr) (fun _ i _ => M.length - (intOf i).toNat)
  case atStart => exact ⟨0, Nat.zero_le _, rfl, by simpa using ho1, ho2, hfar, hbw2⟩
  case round =>
    clear ho1 ho2 hbw2 hfar
    obtain ⟨k, hk, rfl, ho, ho4, hfar, hb⟩ := hrel
    have hs4 := Sees.of_own ho4.out
    have hl := HL.out
    have hi1 := H1.out
    by_cases hlt : k < M.length
    · have hi : (k : Int) < (M.length : Int) := by omega
      obtain ⟨b, o, rfl, hbl, e0⟩ := hs4.int hlt
      have hz := hb.size
      have HX := hid (HT.out k hlt)
      obtain ⟨x, hx⟩ : ∃ x, x = M[k] := ⟨_, rfl⟩
      rw [← hx] at HX e0
      clear hx
      have hrl : (p.idle ++ M.take k).length ≤ 4194304 := by simp; omega
      obtain ⟨R, hR⟩ : ∃ R, R = p.idle ++ M.take k := ⟨_, rfl⟩
      rw [← hR] at HX ho hrl
      clear hR
      go_wp2_with (at_builtin; refine wpList_append_own_at _ rfl _ _ 22 rfl w.heap.size 3 i0 (.int .i64 0) 1 8 Try.underlying22 hi0 hz0 hz1 hz2 rfl (by decide) _ _ _ rfl (ho.alloc4 _).out ⟨wr.heap.size, 0, none⟩ 1 1 [.int .i64 x] rfl rfl (cell_one_new _ _ _) ?c2 ?c3 ?c4 ?c5 ?_)
      case c2 => simp [Value.oneCell']
      case c3 => unfold maxLen; omega
      case c4 => omega
      case c5 => simp; omega
      case _ =>
        intro v1 w3 h1 hg1 _ hat
        have ho5 : Own w3 w1.heap.size (.slice (some ⟨b, o, none⟩) M.length c4) M := row_kept (ho4.alloc4 _).out hg1 (fun q hq hq' => hfar q hq' hq)
        have hfar5 := far_step hfar hat (fun q hq => Nat.lt_succ_of_lt (ho4.out.lt q hq).2)
        clear hat
        obtain ⟨ho1, hb1⟩ := ho.snoc (x := x) hb (Nat.le_refl _) h1 hg1
        clear h1 hg1
        go_wp2
        go_roundw
        case rel => exact ⟨k + 1, by omega, by go_num, by rw [HX.out]; exact ho1, ho5, hfar5, hb1⟩
        case measure => simp [intOf]; omega
    · have hi : ¬ (k : Int) < (M.length : Int) := by omega
      rw [take_whole hlt, HO.out] at ho
      go_wp2
      go_ret
      exact ⟨_, rfl, ho, hb⟩

set_option maxHeartbeats 1000000 in
theorem allDifferent_any (A : Option Addr) (c : Nat) (l : List Int) (w : World) {B : Nat} (h : Sees w B A (ints l)) (hc : l.length ≤ c) (hn : l.length ≤ 4194304) :
    Calls Try.prog 73 #[.slice A l.length c] w fun e w' => e = .returned (.bool (decide l.Nodup)) ∧ w = w' := by
  have HN := hid hn; clear hn
  go_enter Try.func73, Try.ntmps73
  go_wp2
  go_loop [7] (fun i => ∃ k : Nat, k ≤ l.length ∧ i = .int .i64 k ∧ Hid ((l.take k).Nodup)) (fun i => l.length - (intOf i).toNat)
  case atStart => exact ⟨0, Nat.zero_le _, rfl, hid (by simp)⟩
  case round =>
    obtain ⟨k, hk, rfl, HA⟩ := hrel
    have hn := HN.out
    by_cases hlt : k < l.length
    · have hi' : (k : Int) < (l.length : Int) := by omega
      have hkc : (k : Int) ≤ (c : Int) := by omega
      have hk0 : (0 : Int) ≤ (k : Int) := by omega
      have hst := h.itake k
      have HKL := hid (show (l.take k).length = k by rw [List.length_take]; omega)
      obtain ⟨b, o, rfl, _, hcell⟩ := h.int hlt
      have HS := hid (fun (hh : l[k] ∉ l.take k) => nodup_step hlt HA.out hh)
      have HM := hid (fun (hh : l[k] ∈ l.take k) => nodup_not hlt hh)
      obtain ⟨x, hx⟩ : ∃ x, x = l[k] := ⟨_, rfl⟩
      rw [← hx] at hcell HS HM
      clear hx
      by_cases hm : x ∈ l.take k
      · have HX := hid (HM.out hm)
        have hp := Line.place_lt hm
        obtain ⟨V, hV⟩ : ∃ V, V = Line.place (l.take k) x := ⟨_, rfl⟩
        have EV : Hid (Line.place (l.take k) x = V) := hid hV.symm
        rw [← hV] at hp
        have hne : (V != -1) = true := by simp; omega
        clear hV hp hm
        go_wp2_with fail
        refine (placeOf_len HKL.out hst (by rw [HKL.out]; omega)).mono ?_
        rintro e w' ⟨he, rfl⟩
        rw [EV.out] at he
        subst he
        go_wp2
        go_ret
        exact ⟨ret_bool HX.out.symm, rfl⟩
      · have HX := hid (HS.out hm)
        have EV := hid (Line.place_no hm)
        clear hm
        go_wp2_with fail
        refine (placeOf_len HKL.out hst (by rw [HKL.out]; omega)).mono ?_
        rintro e w' ⟨he, rfl⟩
        rw [EV.out] at he
        subst he
        go_wp2
        go_round
        case rel => exact ⟨k + 1, by omega, by go_num, HX⟩
        case measure => simp [intOf]; omega
    · have hi' : ¬ (k : Int) < (l.length : Int) := by omega
      have HX := hid (show decide l.Nodup = true by have := HA.out; rw [take_whole hlt] at this; exact decide_eq_true this)
      go_wp2
      go_ret
      exact ⟨ret_bool HX.out.symm, rfl⟩

end Go.Proofs.Ytehdbllpiokbnaa
