/-
  What AddCounts, the sums and WaitUnder answer, the program's and the model's. Condition: the lists lie in memory and are at most 2^22 long.
-/
import Derived.Test.YtiiieollemhjmabWaB
import Derived.BigQuiet
import Derived.Deep.RegionHeld3
import Derived.Deep.RegionHeldLaw
namespace Go.Proofs.Ytiiieollemhjmab
open Go.RowKit Wt

theorem pre_bd {l : List Int} (h : inC l) : ∀ k : Nat, 0 ≤ pre l k ∧ pre l k ≤ 100 * (k : Int)
  | 0 => by rw [pre_zero]; exact ⟨by decide, by simp⟩
  | k + 1 => by
    have ih := pre_bd h k
    rcases Nat.lt_or_ge k l.length with e | e
    · rw [pre_succ e]
      have := h l[k] (List.getElem_mem e)
      omega
    · rw [pre_all (k := k + 1) (by omega), ← pre_all (k := k) e]; omega
theorem inC_take {l : List Int} (h : inC l) (k : Nat) : inC (l.take k) := fun x hx => h x (List.mem_of_mem_take hx)
theorem sum_bd {l : List Int} (h : inC l) : 0 ≤ l.sum ∧ l.sum ≤ 100 * (l.length : Int) := by
  have := pre_bd h l.length
  rwa [pre_all (Nat.le_refl _)] at this

set_option maxHeartbeats 1000000 in
theorem waSumOf_any (A : Option Addr) (c : Nat) (l : List Int) (w : World) {B : Nat} (h : Sees w B A (ints l)) (hn : l.length ≤ 100000) (hx : inC l) :
    Calls Try.prog 42 #[.slice A l.length c] w fun e w' => e = .returned (.int .i64 l.sum) ∧ w = w' := by
  have HN := hid hn; clear hn
  have HX := hid hx; clear hx
  go_enter Try.func42, Try.ntmps42
  go_wp2
  go_loop [3, 8] (fun s i => ∃ k : Nat, k ≤ l.length ∧ i = .int .i64 k ∧ s = .int .i64 (pre l k)) (fun _ i => l.length - (intOf i).toNat)
  case atStart => exact ⟨0, Nat.zero_le _, rfl, by rw [pre_zero]⟩
  case round =>
    obtain ⟨k, hk, rfl, rfl⟩ := hrel
    have hn := HN.out
    by_cases hlt : k < l.length
    · have hi' : (k : Int) < (l.length : Int) := by omega
      obtain ⟨b, o, rfl, _, hc⟩ := h.int hlt
      have hs := pre_succ hlt
      have hb := pre_bd HX.out (k + 1)
      have hw : IntKind.i64.wrap (pre l k + l[k]) = pre l k + l[k] := by rw [IntKind.wrap_i64]; omega
      have HS := hid hs
      clear hs hb
      go_wp2
      go_round
      case rel => exact ⟨k + 1, by omega, by go_num, by rw [HS.out]⟩
      case measure => simp [intOf]; omega
    · have hi' : ¬ (k : Int) < (l.length : Int) := by omega
      have HS := hid (pre_all (l := l) (k := k) (by omega))
      go_wp2
      go_ret
      exact ⟨ret_int HS.out, rfl⟩
theorem waSumOf_q (A : Option Addr) (c : Nat) (l : List Int) (w : World) (m : Nat) {B : Nat} (h : Sees w B A (ints l)) (hn : l.length ≤ 100000) (hx : inC l) :
    Calls Try.prog 42 #[.slice A l.length c] (w.drewN m) fun e w' => e = .returned (.int .i64 l.sum) ∧ ∃ k, w' = w.drewN k :=
  Calls.quiet_of_same ((waSumOf_any A c l _ (h.drewN m) hn hx).mono fun _ _ ⟨he, hw⟩ => ⟨he, hw.symm⟩)
theorem waSumOf_len {A : Option Addr} {c n : Nat} {l : List Int} {w : World} {B : Nat} (hl : l.length = n) (h : Sees w B A (ints l)) (hn : l.length ≤ 100000) (hx : inC l) :
    Calls Try.prog 42 #[.slice A n c] w fun e w' => e = .returned (.int .i64 l.sum) ∧ w = w' := by
  subst hl; exact waSumOf_any A c l w h hn hx

set_option maxHeartbeats 1000000 in
theorem waTotal_any (A : Option Addr) (c : Nat) (l : List Int) (w : World) {B : Nat} (h : Sees w B A (ints l)) (hn : l.length ≤ 100000) (hx : inC l) :
    Calls Try.prog 43 #[.slice A l.length c] w fun e w' => e = .returned (.int .i64 l.sum) ∧ w = w' := by
  have HN := hid hn; clear hn
  have HX := hid hx; clear hx
  go_enter Try.func43, Try.ntmps43
  go_wp2
  go_loop [3, 4] (fun s i => ∃ k : Nat, k ≤ l.length ∧ i = .int .i64 k ∧ s = .int .i64 (pre l k)) (fun _ i => l.length - (intOf i).toNat)
  case atStart => exact ⟨0, Nat.zero_le _, rfl, by rw [pre_zero]⟩
  case round =>
    obtain ⟨k, hk, rfl, rfl⟩ := hrel
    have hn := HN.out
    by_cases hlt : k < l.length
    · have hi' : (k : Int) < (l.length : Int) := by omega
      obtain ⟨b, o, rfl, _, hc⟩ := h.int hlt
      have hs := pre_succ hlt
      have hb := pre_bd HX.out (k + 1)
      have hw : IntKind.i64.wrap (pre l k + l[k]) = pre l k + l[k] := by rw [IntKind.wrap_i64]; omega
      have HS := hid hs
      clear hs hb
      go_wp2
      go_round
      case rel => exact ⟨k + 1, by omega, by go_num, by rw [HS.out]⟩
      case measure => simp [intOf]; omega
    · have hi' : ¬ (k : Int) < (l.length : Int) := by omega
      have HS := hid (pre_all (l := l) (k := k) (by omega))
      go_wp2
      go_ret
      exact ⟨ret_int HS.out, rfl⟩
theorem waTotal_q (A : Option Addr) (c : Nat) (l : List Int) (w : World) (m : Nat) {B : Nat} (h : Sees w B A (ints l)) (hn : l.length ≤ 100000) (hx : inC l) :
    Calls Try.prog 43 #[.slice A l.length c] (w.drewN m) fun e w' => e = .returned (.int .i64 l.sum) ∧ ∃ k, w' = w.drewN k :=
  Calls.quiet_of_same ((waTotal_any A c l _ (h.drewN m) hn hx).mono fun _ _ ⟨he, hw⟩ => ⟨he, hw.symm⟩)
theorem waTotal_len {A : Option Addr} {c n : Nat} {l : List Int} {w : World} {B : Nat} (hl : l.length = n) (h : Sees w B A (ints l)) (hn : l.length ≤ 100000) (hx : inC l) :
    Calls Try.prog 43 #[.slice A n c] w fun e w' => e = .returned (.int .i64 l.sum) ∧ w = w' := by
  subst hl; exact waTotal_any A c l w h hn hx

set_option maxHeartbeats 1000000 in
theorem waLSum_any (A : Option Addr) (c : Nat) (l : List Int) (w : World) {B : Nat} (h : Sees w B A (ints l)) (hn : l.length ≤ 100000) (hx : inC l) :
    Calls Try.prog 22 #[.slice A l.length c] w fun e w' => e = .returned (.int .i64 l.sum) ∧ w = w' := by
  have HN := hid hn; clear hn
  have HX := hid hx; clear hx
  go_enter Try.func22, Try.ntmps22
  go_wp2
  go_loop [3, 4] (fun s i => ∃ k : Nat, k ≤ l.length ∧ i = .int .i64 k ∧ s = .int .i64 (pre l k)) (fun _ i => l.length - (intOf i).toNat)
  case atStart => exact ⟨0, Nat.zero_le _, rfl, by rw [pre_zero]⟩
  case round =>
    obtain ⟨k, hk, rfl, rfl⟩ := hrel
    have hn := HN.out
    by_cases hlt : k < l.length
    · have hi' : (k : Int) < (l.length : Int) := by omega
      obtain ⟨b, o, rfl, _, hc⟩ := h.int hlt
      have hs := pre_succ hlt
      have hb := pre_bd HX.out (k + 1)
      have hw : IntKind.i64.wrap (pre l k + l[k]) = pre l k + l[k] := by rw [IntKind.wrap_i64]; omega
      have HS := hid hs
      clear hs hb
      go_wp2
      go_round
      case rel => exact ⟨k + 1, by omega, by go_num, by rw [HS.out]⟩
      case measure => simp [intOf]; omega
    · have hi' : ¬ (k : Int) < (l.length : Int) := by omega
      have HS := hid (pre_all (l := l) (k := k) (by omega))
      go_wp2
      go_ret
      exact ⟨ret_int HS.out, rfl⟩
theorem waLSum_q (A : Option Addr) (c : Nat) (l : List Int) (w : World) (m : Nat) {B : Nat} (h : Sees w B A (ints l)) (hn : l.length ≤ 100000) (hx : inC l) :
    Calls Try.prog 22 #[.slice A l.length c] (w.drewN m) fun e w' => e = .returned (.int .i64 l.sum) ∧ ∃ k, w' = w.drewN k :=
  Calls.quiet_of_same ((waLSum_any A c l _ (h.drewN m) hn hx).mono fun _ _ ⟨he, hw⟩ => ⟨he, hw.symm⟩)
theorem waLSum_len {A : Option Addr} {c n : Nat} {l : List Int} {w : World} {B : Nat} (hl : l.length = n) (h : Sees w B A (ints l)) (hn : l.length ≤ 100000) (hx : inC l) :
    Calls Try.prog 22 #[.slice A n c] w fun e w' => e = .returned (.int .i64 l.sum) ∧ w = w' := by
  subst hl; exact waLSum_any A c l w h hn hx

/-- What AddCounts answers: the sums in a list of the call's own, and a truth value. -/
def AcAns (a b : List Int) (w : World) (e : Ending) (w' : World) : Prop :=
  ∃ A c, e = .returned (.tuple #[.slice A (addL a b).length c, .bool (addB a b)]) ∧ Own w' w.heap.size (.slice A (addL a b).length c) (addL a b) ∧ Below w.heap.size w w'
theorem AcAns.no {a b : List Int} {w w' : World} (h : addB a b = false) (hb : Below w.heap.size w w') : AcAns a b w (.returned (.tuple #[.slice none 0 0, .bool false])) w' := by
  refine ⟨none, 0, ?_, ?_, hb⟩
  · rw [addL_no h, h]; rfl
  · rw [addL_no h]; exact Own.none_ _ _
theorem AcAns.yes {a b : List Int} {w w' : World} {A : Option Addr} {c : Nat} {V : List Int} (h : addB a b = true) (hV : zip a b = V) (ho : Own w' w.heap.size (.slice A V.length c) V) (hb : Below w.heap.size w w') : AcAns a b w (.returned (.tuple #[.slice A V.length c, .bool true])) w' := by
  subst hV
  refine ⟨A, c, ?_, ?_, hb⟩
  · rw [addL_yes h, h]
  · rw [addL_yes h]; exact ho
theorem add_no1 {a b : List Int} (h : cntB a = false) : addB a b = false := by unfold addB; rw [h]; rfl
theorem add_no2 {a b : List Int} (h : cntB b = false) : addB a b = false := by unfold addB; rw [h]; simp
theorem add_no3 {a b : List Int} (h : cntB (zip a b) = false) : addB a b = false := by unfold addB; rw [h]; simp
theorem add_yes {a b : List Int} (h1 : cntB a = true) (h2 : cntB b = true) (h3 : cntB (zip a b) = true) : addB a b = true := addB_iff.2 ⟨h1, h2, h3⟩

set_option maxHeartbeats 4000000 in
theorem iAddCounts_any (a b : List Int) (A B : Option Addr) (c d : Nat) (w : World) (ha : Sees w w.heap.size A (ints a)) (hb : Sees w w.heap.size B (ints b)) (hna : a.length ≤ 4194304) (hnb : b.length ≤ 4194304) :
    Calls Try.prog 23 #[.slice A a.length c, .slice B b.length d] w (AcAns a b w) := by
  obtain ⟨i0, hi0, hz0, hz1, hz2⟩ := info_parts intInfo
  have HNa := hid hna
  have HNb := hid hnb
  clear hna hnb
  have hB0 := Below.refl w.heap.size w
  have ho0 : Own w w.heap.size (.slice none 0 0) [] := Own.none_ _ _
  have ha0 := ha.below hB0
  have hb0 := hb.below hB0
  rcases hva : cntB a with _ | _
  · have HA := hid hva
    have E := hid (add_no1 (b := b) hva)
    clear hva
    go_enter Try.func23, Try.ntmps23
    go_wp2_with fail
    with_reducible refine (iValidCounts_any A c a _ ha0 HNa.out).mono ?_
    rintro e w' ⟨he, rfl⟩
    rw [HA.out] at he
    subst he
    go_wp2
    go_ret2
    exact AcAns.no E.out hB0
  rcases hvb : cntB b with _ | _
  · have HA := hid hva
    have HB := hid hvb
    have E := hid (add_no2 (a := a) hvb)
    clear hva hvb
    go_enter Try.func23, Try.ntmps23
    go_wp2_with fail
    with_reducible refine (iValidCounts_any A c a _ ha0 HNa.out).mono ?_
    rintro e w' ⟨he, rfl⟩
    rw [HA.out] at he
    subst he
    go_wp2_with fail
    with_reducible refine (iValidCounts_any B d b _ hb0 HNb.out).mono ?_
    rintro e w' ⟨he, rfl⟩
    rw [HB.out] at he
    subst he
    go_wp2
    go_ret2
    exact AcAns.no E.out hB0
  have HA := hid hva
  have HB := hid hvb
  have HL := hid (cntB_iff.1 hva).1
  have HM := hid (cntB_iff.1 hvb).1
  have HCa := hid (cntB_iff.1 hva).2
  have HCb := hid (cntB_iff.1 hvb).2
  have HZ := hid (show zip (a.take 8) (b.take 8) = zip a b by rw [List.take_of_length_le (by rw [HL.out]; exact Nat.le_refl _), List.take_of_length_le (by rw [HM.out]; exact Nat.le_refl _)])
  have HZl := hid (show (zip a b).length = 8 by rw [zip_len, HL.out, HM.out]; rfl)
  clear hva hvb
  go_enter Try.func23, Try.ntmps23
  go_wp2_with fail
  with_reducible refine (iValidCounts_any A c a _ ha0 HNa.out).mono ?_
  rintro e w' ⟨he, rfl⟩
  rw [HA.out] at he
  subst he
  go_wp2_with fail
  with_reducible refine (iValidCounts_any B d b _ hb0 HNb.out).mono ?_
  rintro e w' ⟨he, rfl⟩
  rw [HB.out] at he
  subst he
  go_wp2_with fail
  have hl8 : (a.length : Int) = 8 := by have := HL.out; omega
  have HL8 := hid hl8
  clear hl8
  go_loopw [6, 19] (fun v i wr => ∃ (k : Nat) (G : Option Addr) (e : Nat) (ys : List Int), k ≤ 8 ∧ i = .int .i64 k ∧ v = .slice G ys.length e ∧ Hid (ys = zip (a.take k) (b.take k)) ∧ Own wr w.heap.size (.slice G ys.length e) ys ∧ Below w.heap.size w wr) (fun _ i _ => 8 - (intOf i).toNat)
  case atStart => exact ⟨0, _, _, [], Nat.zero_le _, rfl, rfl, hid (by simp [zip]), ho0, hB0⟩
  case round =>
    clear ho0 hB0 ha0 hb0
    obtain ⟨k, G, f, ys, hk, rfl, rfl, HY, ho, hB⟩ := hrel
    by_cases hlt : k < 8
    · have hka : k < a.length := by have := HL.out; omega
      have hkb : k < b.length := by have := HM.out; omega
      obtain ⟨g1, o1, rfl, _, ca⟩ := (ha.below hB).int hka
      obtain ⟨g2, o2, rfl, _, cb⟩ := (hb.below hB).int hkb
      have HT := hid (zip_take a b hka hkb)
      have hxa := HCa.out a[k] (List.getElem_mem hka)
      have hxb := HCb.out b[k] (List.getElem_mem hkb)
      obtain ⟨x, hx⟩ : ∃ x, x = a[k] := ⟨_, rfl⟩
      obtain ⟨y, hy⟩ : ∃ y, y = b[k] := ⟨_, rfl⟩
      rw [← hx] at ca HT hxa
      rw [← hy] at cb HT hxb
      clear hx hy
      have hw : IntKind.i64.wrap (x + y) = x + y := by rw [IntKind.wrap_i64]; omega
      have hyl : ys.length ≤ 8 := by rw [HY.out, zip_len, List.length_take, List.length_take]; omega
      have hi : (k : Int) < 8 := by omega
      have hia : (k : Int) < (a.length : Int) := by omega
      have hib : (k : Int) < (b.length : Int) := by omega
      have hlow := ho.out.lt
      go_wp2_with (at_builtin; refine wpList_append_own _ rfl _ _ 26 rfl w.heap.size 3 i0 (.int .i64 0) 1 8 Try.underlying26 hi0 hz0 hz1 hz2 rfl (by decide) _ _ _ rfl (own_alloc ho.out _) ⟨wr.heap.size, 0, none⟩ 1 1 [.int .i64 (x + y)] rfl rfl (cell_one_new _ _ _) ?c2 ?c3 ?c4 ?c5 ?_)
      case c2 => simp [Value.oneCell']
      case c3 => unfold maxLen; omega
      case c4 => omega
      case c5 => have := hB.size; simp; omega
      case _ =>
        intro v6 w6 h6 hg7 _
        have ho6 : Own w6 w.heap.size v6 (ys ++ [x + y]) := by unfold Own; rw [ints_app, List.length_append]; exact h6
        have hB6 := (hB.alloc hB.size (.cells #[.int .i64 (x + y)] 3)).grown hg7 (by have := hB.size; simp; omega) (fun q hq => (hlow q hq).1)
        obtain ⟨A6, c6, rfl, _⟩ := own_form h6
        have e6 : (ys ++ [x + y]).length = ys.length + 1 := by simp
        have HY2 := hid (show ys ++ [x + y] = zip (a.take (k + 1)) (b.take (k + 1)) by rw [HT.out, HY.out])
        skip
        clear h6 hg7 hlow
        go_wp2
        go_roundw
        case rel => exact ⟨k + 1, A6, c6, ys ++ [x + y], by omega, by go_num, by rw [e6], HY2, by rw [e6]; exact ho6, hB6⟩
        case measure => simp [intOf]; omega
    · have hi : ¬ (k : Int) < 8 := by omega
      have hia : ¬ (k : Int) < (a.length : Int) := by have := HL8.out; omega
      have hk8 : k = 8 := by omega
      have HV := hid (show zip a b = ys by rw [HY.out, hk8]; exact HZ.out.symm)
      have HVn := hid (show ys.length ≤ 4194304 by rw [← HV.out, HZl.out]; decide)
      clear hk8
      rcases hvz : cntB ys with _ | _
      · have HC := hid hvz
        have E := hid (add_no3 (show cntB (zip a b) = false by rw [HV.out]; exact hvz))
        clear hvz
        go_wp2_with fail
        with_reducible refine (iValidCounts_any G f ys _ (Sees.of_own ho.out) HVn.out).mono ?_
        rintro e w' ⟨he, rfl⟩
        rw [HC.out] at he
        subst he
        go_wp2
        go_ret2
        exact AcAns.no E.out hB
      · have HC := hid hvz
        have E := hid (add_yes HA.out HB.out (show cntB (zip a b) = true by rw [HV.out]; exact hvz))
        clear hvz
        go_wp2_with fail
        with_reducible refine (iValidCounts_any G f ys _ (Sees.of_own ho.out) HVn.out).mono ?_
        rintro e w' ⟨he, rfl⟩
        rw [HC.out] at he
        subst he
        go_wp2
        go_ret2
        exact AcAns.yes E.out HV.out ho hB

set_option maxHeartbeats 4000000 in
theorem sAddCounts_any (a b : List Int) (A B : Option Addr) (c d : Nat) (w : World) (ha : Sees w w.heap.size A (ints a)) (hb : Sees w w.heap.size B (ints b)) (hna : a.length ≤ 4194304) (hnb : b.length ≤ 4194304) :
    Calls Try.prog 25 #[.slice A a.length c, .slice B b.length d] w (AcAns a b w) := by
  obtain ⟨i0, hi0, hz0, hz1, hz2⟩ := info_parts intInfo
  have HNa := hid hna
  have HNb := hid hnb
  clear hna hnb
  have hB0 := (Below.refl w.heap.size w).alloc (Nat.le_refl _) (.cells #[] 3)
  have ho0 : Own (w.alloc (.cells #[] 3)) w.heap.size (.slice (some ⟨w.heap.size, 0, none⟩) 0 0) [] := made_at 3 1 rfl (Nat.le_refl _)
  have ha0 := ha.below hB0
  have hb0 := hb.below hB0
  rcases hva : cntB a with _ | _
  · have HA := hid hva
    have E := hid (add_no1 (b := b) hva)
    clear hva
    go_enter Try.func25, Try.ntmps25
    go_wp2_with fail
    with_reducible refine (svalidCounts_any A c a _ ha0 HNa.out).mono ?_
    rintro e w' ⟨he, rfl⟩
    rw [HA.out] at he
    subst he
    go_wp2
    go_ret2
    exact AcAns.no E.out hB0
  rcases hvb : cntB b with _ | _
  · have HA := hid hva
    have HB := hid hvb
    have E := hid (add_no2 (a := a) hvb)
    clear hva hvb
    go_enter Try.func25, Try.ntmps25
    go_wp2_with fail
    with_reducible refine (svalidCounts_any A c a _ ha0 HNa.out).mono ?_
    rintro e w' ⟨he, rfl⟩
    rw [HA.out] at he
    subst he
    go_wp2_with fail
    with_reducible refine (svalidCounts_any B d b _ hb0 HNb.out).mono ?_
    rintro e w' ⟨he, rfl⟩
    rw [HB.out] at he
    subst he
    go_wp2
    go_ret2
    exact AcAns.no E.out hB0
  have HA := hid hva
  have HB := hid hvb
  have HL := hid (cntB_iff.1 hva).1
  have HM := hid (cntB_iff.1 hvb).1
  have HCa := hid (cntB_iff.1 hva).2
  have HCb := hid (cntB_iff.1 hvb).2
  have HZ := hid (show zip (a.take 8) (b.take 8) = zip a b by rw [List.take_of_length_le (by rw [HL.out]; exact Nat.le_refl _), List.take_of_length_le (by rw [HM.out]; exact Nat.le_refl _)])
  have HZl := hid (show (zip a b).length = 8 by rw [zip_len, HL.out, HM.out]; rfl)
  clear hva hvb
  go_enter Try.func25, Try.ntmps25
  go_wp2_with fail
  with_reducible refine (svalidCounts_any A c a _ ha0 HNa.out).mono ?_
  rintro e w' ⟨he, rfl⟩
  rw [HA.out] at he
  subst he
  go_wp2_with fail
  with_reducible refine (svalidCounts_any B d b _ hb0 HNb.out).mono ?_
  rintro e w' ⟨he, rfl⟩
  rw [HB.out] at he
  subst he
  go_wp2_with fail
  have hl8 : (a.length : Int) = 8 := by have := HL.out; omega
  have HL8 := hid hl8
  clear hl8
  go_loopw [6, 7] (fun v i wr => ∃ (k : Nat) (G : Option Addr) (e : Nat) (ys : List Int), k ≤ 8 ∧ i = .int .i64 k ∧ v = .slice G ys.length e ∧ Hid (ys = zip (a.take k) (b.take k)) ∧ Own wr w.heap.size (.slice G ys.length e) ys ∧ Below w.heap.size w wr) (fun _ i _ => 8 - (intOf i).toNat)
  case atStart => exact ⟨0, _, _, [], Nat.zero_le _, rfl, rfl, hid (by simp [zip]), ho0, hB0⟩
  case round =>
    clear ho0 hB0 ha0 hb0
    obtain ⟨k, G, f, ys, hk, rfl, rfl, HY, ho, hB⟩ := hrel
    by_cases hlt : k < 8
    · have hka : k < a.length := by have := HL.out; omega
      have hkb : k < b.length := by have := HM.out; omega
      obtain ⟨g1, o1, rfl, hg1, ca⟩ := (ha.below hB).int hka
      obtain ⟨g2, o2, rfl, hg2, cb⟩ := (hb.below hB).int hkb
      have HT := hid (zip_take a b hka hkb)
      have hxa := HCa.out a[k] (List.getElem_mem hka)
      have hxb := HCb.out b[k] (List.getElem_mem hkb)
      obtain ⟨x, hx⟩ : ∃ x, x = a[k] := ⟨_, rfl⟩
      obtain ⟨y, hy⟩ : ∃ y, y = b[k] := ⟨_, rfl⟩
      rw [← hx] at ca HT hxa
      rw [← hy] at cb HT hxb
      clear hx hy
      have hw : IntKind.i64.wrap (x + y) = x + y := by rw [IntKind.wrap_i64]; omega
      have hyl : ys.length ≤ 8 := by rw [HY.out, zip_len, List.length_take, List.length_take]; omega
      have hi : (k : Int) < 8 := by omega
      have hia : (k : Int) < (a.length : Int) := by omega
      have hib : (k : Int) < (b.length : Int) := by omega
      have hlow := ho.out.lt
      have hown := hid (show wr.drew.ownsRow w.heap.size 3 1 _ ys.length (ints ys) from ho.out)
      have hz := hB.size
      go_wp2_with fail
      go_region_held_law (fun w' => w'.cell? ⟨g1, o1 + k, none⟩ = some (.int .i64 x) ∧ w'.cell? ⟨g2, o2 + k, none⟩ = some (.int .i64 y))
        (first | with_reducible exact ⟨ca, cb⟩ | with_reducible exact ⟨p0, p1⟩ | go_keep)
        (first
        | (refine step_append_own _ (by rfl) _ _ 26 (by rfl) w.heap.size 3 i0 (.int .i64 0) 1 8 Try.underlying26 hi0 hz0 hz1 hz2 rfl (by decide) _ ys.length (ints ys) (by rfl) (own_alloc hown.out _) ⟨wr.heap.size, 0, none⟩ 1 1 [.int .i64 (x + y)] (by rfl) (by rfl) (by first | exact cell_one_new wr.drew _ _ | exact (At.newAt 3 _ rfl).drew.news) (by simp [Value.oneCell']) (by unfold maxLen; omega) (by omega) (by simp; omega) ?_; intro v6 w6 h6 hg6; have hbx : Below w.heap.size wr w6 := ((Below.refl _ _).drew.alloc (by simpa using hz) _).grown hg6 (by simp; omega) (fun q hq => (hown.out.lt q hq).1); have p0 := ((below_cell hbx).1 g1 (o1 + k) hg1).trans ca; have p1 := ((below_cell hbx).1 g2 (o2 + k) hg2).trans cb)
        | fail)
      all_goals
        have ho6 : Own w6 w.heap.size v6 (ys ++ [x + y]) := by unfold Own; rw [ints_app, List.length_append]; exact h6
        have hB6 := hB.trans hbx
        obtain ⟨A6, c6, rfl, _⟩ := own_form h6
        have e6 : (ys ++ [x + y]).length = ys.length + 1 := by simp
        have HY2 := hid (show ys ++ [x + y] = zip (a.take (k + 1)) (b.take (k + 1)) by rw [HT.out, HY.out])
        clear h6 hg6 hbx p0 p1 hw
        go_wp2
        go_roundw
        case rel => exact ⟨k + 1, A6, c6, ys ++ [x + y], by omega, by go_num, by rw [e6], HY2, by rw [e6]; exact ho6, hB6⟩
        case measure => simp [intOf]; omega
    · have hi : ¬ (k : Int) < 8 := by omega
      have hia : ¬ (k : Int) < (a.length : Int) := by have := HL8.out; omega
      have hk8 : k = 8 := by omega
      have HV := hid (show zip a b = ys by rw [HY.out, hk8]; exact HZ.out.symm)
      have HVn := hid (show ys.length ≤ 4194304 by rw [← HV.out, HZl.out]; decide)
      clear hk8
      rcases hvz : cntB ys with _ | _
      · have HC := hid hvz
        have E := hid (add_no3 (show cntB (zip a b) = false by rw [HV.out]; exact hvz))
        clear hvz
        go_wp2_with fail
        with_reducible refine (svalidCounts_any G f ys _ (Sees.of_own ho.out) HVn.out).mono ?_
        rintro e w' ⟨he, rfl⟩
        rw [HC.out] at he
        subst he
        go_wp2
        go_ret2
        exact AcAns.no E.out hB
      · have HC := hid hvz
        have E := hid (add_yes HA.out HB.out (show cntB (zip a b) = true by rw [HV.out]; exact hvz))
        clear hvz
        go_wp2_with fail
        with_reducible refine (svalidCounts_any G f ys _ (Sees.of_own ho.out) HVn.out).mono ?_
        rintro e w' ⟨he, rfl⟩
        rw [HC.out] at he
        subst he
        go_wp2
        go_ret2
        exact AcAns.yes E.out HV.out ho hB

end Go.Proofs.Ytiiieollemhjmab
