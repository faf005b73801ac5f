/-
  What the model's validWishes, soonest, serve answer. Condition: the list lies in memory.
-/
import Derived.Test.YtolcnokmdohbaaaWiC
namespace Go.Proofs.Ytolcnokmdohbaaa
open Go.RowKit Wis

theorem wok_inB (x : Wi) : x.ok = (inB x.a 0 1000 && (inB x.h 1 100 && inB x.p 0 100)) := by
  rw [Bool.eq_iff_iff]
  simp only [Bool.and_eq_true, inB_iff, Wi.ok_iff]
  omega
set_option maxHeartbeats 8000000 in
theorem svalidWishes_any (A : Option Addr) (c : Nat) (l : List Wi) (w : World) (h : Sees w w.heap.size A (strip wcells l)) (hn : l.length ≤ 4194304) :
    Calls Try.prog 27 #[.slice A l.length c] w fun e w' => e = .returned (.bool (wishB l)) ∧ Below w.heap.size w w' := by
  have HN := hid hn
  clear hn
  go_enter Try.func27, Try.ntmps27
  go_wp2
  go_loopw [3] (fun i wr => ∃ k : Nat, k ≤ l.length ∧ i = .int .i64 k ∧ Hid (Fine (l.take k)) ∧ Below w.heap.size w wr) (fun i _ => l.length - (intOf i).toNat)
  case atStart => exact ⟨0, Nat.zero_le _, rfl, hid Fine.nil, Below.refl _ _⟩
  case round =>
    obtain ⟨k, hk, rfl, HF, hb⟩ := hrel
    have hn := HN.out
    by_cases hlt : k < l.length
    · have hi : (k : Int) < (l.length : Int) := by omega
      obtain ⟨b, o, rfl, hbl, e0, e1, e2⟩ := (h.below hb).wish hlt
      have HS := hid (fun h1 h2 => (fine_take_succ hlt).2 ⟨HF.out, h1, h2⟩)
      have HNO := hid (fun hh => fine_not hlt hh)
      obtain ⟨x, hx⟩ : ∃ x, x = l[k] := ⟨_, rfl⟩
      rw [← hx] at e0 e1 e2 HS HNO
      have HO := hid (wok_inB x)
      rcases d1 : inB x.a 0 1000 with _ | _
      · have HX := hid (HNO.out (fun hh => by have := hh.1; rw [HO.out, d1] at this; cases this))
        have HD := hid d1
        clear d1 hx
        go_wp2
        go_quiet ((go_at_call 31; exact Calls.quiet_of_same ((inRange_any _ _ _ _).mono fun _ _ ⟨he, hw⟩ => ⟨by rw [he, HD.out], hw.symm⟩)))
        go_wp2
        go_ret
        exact ⟨ret_bool HX.out.symm, below_drewN hb _⟩
      · rcases d2 : inB x.h 1 100 with _ | _
        · have HX := hid (HNO.out (fun hh => by have := hh.1; rw [HO.out, d2] at this; simp at this))
          have HD := hid d1
          have HD2 := hid d2
          clear d1 d2 hx
          go_wp2
          go_quiet ((go_at_call 31; exact Calls.quiet_of_same ((inRange_any _ _ _ _).mono fun _ _ ⟨he, hw⟩ => ⟨by first | rw [he, HD.out] | rw [he, HD2.out], hw.symm⟩)))
          go_wp2
          go_ret
          exact ⟨ret_bool HX.out.symm, below_drewN hb _⟩
        · rcases d3 : inB x.p 0 100 with _ | _
          · have HX := hid (HNO.out (fun hh => by have := hh.1; rw [HO.out, d3] at this; simp at this))
            have HD := hid d1
            have HD2 := hid d2
            have HD3 := hid d3
            clear d1 d2 d3 hx
            go_wp2
            go_quiet ((go_at_call 31; exact Calls.quiet_of_same ((inRange_any _ _ _ _).mono fun _ _ ⟨he, hw⟩ => ⟨by first | rw [he, HD.out] | rw [he, HD2.out] | rw [he, HD3.out], hw.symm⟩)))
            go_wp2
            go_ret
            exact ⟨ret_bool HX.out.symm, below_drewN hb _⟩
          · have HOK := hid (show x.ok = true by rw [HO.out, d1, d2, d3]; rfl)
            have HD := hid d1
            have HD2 := hid d2
            have HD3 := hid d3
            clear d1 d2 d3
            by_cases hk0 : k = 0
            · have HX := hid (HS.out HOK.out (fun h0 => by omega))
              have hg1 : ¬ 0 < k := by omega
              have HK0 := hid hk0
              clear hx hk0
              go_wp2
              go_quiet ((go_at_call 31; exact Calls.quiet_of_same ((inRange_any _ _ _ _).mono fun _ _ ⟨he, hw⟩ => ⟨by first | rw [he, HD.out] | rw [he, HD2.out] | rw [he, HD3.out], hw.symm⟩)))
              go_wp2
              go_roundw
              case rel => exact ⟨k + 1, by omega, by go_num, HX, below_drewN hb _⟩
              case measure => simp [intOf]; omega
            · have hkl : k - 1 < l.length := by omega
              obtain ⟨j, hj⟩ : ∃ j, k = j + 1 := ⟨k - 1, by omega⟩
              obtain ⟨b', o', e', _, f0, f1, f2⟩ := (h.below hb).wish (show j < l.length by omega)
              obtain ⟨rfl, rfl⟩ : b = b' ∧ o = o' := by injection e' with e'; injection e' with a b; exact ⟨a, b⟩
              obtain ⟨y, hy⟩ : ∃ y, y = l[j] := ⟨_, rfl⟩
              have HY := hid (show l[k - 1]'hkl = y by subst hj; exact hy.symm)
              rw [← hy] at f0 f1 f2
              have hg1 : 0 < k := by omega
              have hj0 : (0 : Int) ≤ (k : Int) - 1 := by omega
              have hw1 : IntKind.i64.wrap ((k : Int) - 1) = (k : Int) - 1 := by rw [IntKind.wrap_i64]; omega
              have hjl : (k : Int) - 1 < (l.length : Int) := by omega
              have hw2 : ((k : Int) - 1).toNat = j := by omega
              have HK0 := hid hk0
              have HJ := hid hj
              clear hx hy e' f1 f2 hk0 hj
              by_cases hxy : x.a < y.a
              · have HX := hid (HNO.out (fun hh => by have := hh.2 (by have := HK0.out; omega); rw [HY.out] at this; omega))
                go_wp2
                go_quiet ((go_at_call 31; exact Calls.quiet_of_same ((inRange_any _ _ _ _).mono fun _ _ ⟨he, hw⟩ => ⟨by first | rw [he, HD.out] | rw [he, HD2.out] | rw [he, HD3.out], hw.symm⟩)))
                go_wp2
                go_ret
                exact ⟨ret_bool HX.out.symm, below_drewN hb _⟩
              · have HX := hid (HS.out HOK.out (fun h0 => by rw [HY.out]; omega))
                go_wp2
                go_quiet ((go_at_call 31; exact Calls.quiet_of_same ((inRange_any _ _ _ _).mono fun _ _ ⟨he, hw⟩ => ⟨by first | rw [he, HD.out] | rw [he, HD2.out] | rw [he, HD3.out], hw.symm⟩)))
                go_wp2
                go_roundw
                case rel => exact ⟨k + 1, by omega, by go_num, HX, below_drewN hb _⟩
                case measure => simp [intOf]; omega
    · have hi : ¬ (k : Int) < (l.length : Int) := by omega
      have HX := hid (show decide ((l.length : Int) ≤ 12) = wishB l by
        have := HF.out
        rw [take_whole hlt] at this
        rw [Bool.eq_iff_iff, wishB_iff, decide_eq_true_eq]
        exact ⟨fun hh => ⟨by omega, this⟩, fun hh => by omega⟩)
      go_wp2
      go_ret
      exact ⟨ret_bool HX.out, hb⟩

set_option maxHeartbeats 1000000 in
theorem sValidWishes_any (A : Option Addr) (c : Nat) (l : List Wi) (w : World) (h : Sees w w.heap.size A (strip wcells l)) (hn : l.length ≤ 4194304) :
    Calls Try.prog 10 #[.slice A l.length c] w fun e w' => e = .returned (.bool (wishB l)) ∧ Below w.heap.size w w' := by
  have HN := hid hn
  clear hn
  go_enter Try.func10, Try.ntmps10
  go_wp2_with fail
  refine (svalidWishes_any A c l _ h HN.out).mono ?_
  rintro e w1 ⟨rfl, hb1⟩
  go_wp2
  go_ret
  exact ⟨rfl, hb1⟩

/-- The place of the least number, of several the first one. -/
def Least (F : List Int) (i m : Nat) : Prop := i < m ∧ ∀ j, j < m → at_ F i ≤ at_ F j
def SoonAns (F : List Int) (w : World) (e : Ending) (w' : World) : Prop := ∃ i : Nat, e = .returned (.int .i64 i) ∧ i < F.length ∧ (∀ j, j < F.length → at_ F i ≤ at_ F j) ∧ ∃ k, w' = w.drewN k
set_option maxHeartbeats 2000000 in
theorem soonest_any (A : Option Addr) (c n : Nat) (F : List Int) (w : World) {B : Nat} (hl : F.length = n) (h : Sees w B A (ints F)) (hn0 : 0 < n) (hn : n ≤ 100) :
    Calls Try.prog 40 #[.slice A n c] w (SoonAns F w) := by
  have HL := hid hl
  clear hl
  go_enter Try.func40, Try.ntmps40
  go_wp2
  go_loopw [3, 4] (fun a i wr => ∃ (q k : Nat), a = .int .i64 q ∧ i = .int .i64 k ∧ k ≤ n ∧ 0 < k ∧ Hid (Least F q k) ∧ ∃ d, wr = w.drewN d) (fun _ i _ => n - (intOf i).toNat)
  case atStart =>
    refine ⟨0, 1, rfl, rfl, hn0, by omega, hid ⟨by omega, fun j hj => ?_⟩, 0, rfl⟩
    have : j = 0 := by omega
    subst this
    exact Int.le_refl _
  case round =>
    obtain ⟨q, k, rfl, rfl, hk, hk0, HQ, d, rfl⟩ := hrel
    have hq1 := HQ.out.1
    by_cases hlt : k < n
    · have hi : (k : Int) < (n : Int) := by omega
      have hqi : (q : Int) < (n : Int) := by omega
      have hq0 : (0 : Int) ≤ (q : Int) := by omega
      have hki0 : (0 : Int) ≤ (k : Int) := by omega
      obtain ⟨b, o, rfl, _, e1⟩ := h.int (show k < F.length by rw [HL.out]; exact hlt)
      obtain ⟨b', o', e', _, e2⟩ := h.int (show q < F.length by rw [HL.out]; omega)
      obtain ⟨rfl, rfl⟩ : b = b' ∧ o = o' := by injection e' with e'; injection e' with a b; exact ⟨a, b⟩
      rw [← at_get] at e1 e2
      obtain ⟨y1, hy1⟩ : ∃ y, y = at_ F k := ⟨_, rfl⟩
      obtain ⟨y2, hy2⟩ : ∃ y, y = at_ F q := ⟨_, rfl⟩
      rw [← hy1] at e1
      rw [← hy2] at e2
      have HY1 := hid hy1
      have HY2 := hid hy2
      clear hy1 hy2 e'
      by_cases hxy : y1 < y2
      · have HX := hid (show Least F k (k + 1) from ⟨by omega, fun j hj => by
          rw [← HY1.out]
          rcases Nat.lt_or_ge j k with e | e
          · have := HQ.out.2 j e; rw [← HY2.out] at this; omega
          · rw [show j = k by omega, ← HY1.out]; exact Int.le_refl _⟩)
        go_wp2
        go_quiet (fail)
        go_wp2
        go_roundw
        case rel => exact ⟨k, k + 1, rfl, by go_num, by omega, by omega, HX, _, rfl⟩
        case measure => simp [intOf]; omega
      · have HX := hid (show Least F q (k + 1) from ⟨by omega, fun j hj => by
          rw [← HY2.out]
          rcases Nat.lt_or_ge j k with e | e
          · have := HQ.out.2 j e; rw [← HY2.out] at this; omega
          · rw [show j = k by omega, ← HY1.out]; omega⟩)
        go_wp2
        go_quiet (fail)
        go_wp2
        go_roundw
        case rel => exact ⟨q, k + 1, rfl, by go_num, by omega, by omega, HX, _, rfl⟩
        case measure => simp [intOf]; omega
    · have hi : ¬ (k : Int) < (n : Int) := by omega
      have he : k = n := by omega
      have HE := hid he
      clear he
      go_wp2
      go_ret
      exact ⟨q, rfl, by rw [HL.out]; omega, by rw [HL.out, ← HE.out]; exact HQ.out.2, d, rfl⟩

/-- A list of free times, as the model keeps it, and the times served. -/
structure SrvS (w wr : World) (n : Nat) (l : List Wi) (fv tv : Value) (H : List Int) : Prop where
  perm : H.Perm (after (zeros n) l)
  free : Own wr w.heap.size fv H
  times : Own wr w.heap.size tv (run (zeros n) l)
  far : FarV fv tv
  below : Below w.heap.size w wr
theorem SrvS.drewN {w wr : World} {n : Nat} {l : List Wi} {fv tv : Value} {H : List Int} (h : SrvS w wr n l fv tv H) (k : Nat) : SrvS w (wr.drewN k) n l fv tv H := ⟨h.perm, h.free, h.times, h.far, below_drewN h.below k⟩
theorem SrvS.alloc {w wr : World} {n : Nat} {l : List Wi} {fv tv : Value} {H : List Int} (h : SrvS w wr n l fv tv H) (o : Obj) : SrvS w (wr.alloc o) n l fv tv H := ⟨h.perm, h.free.alloc5 o, h.times.alloc5 o, h.far, h.below.alloc h.below.size o⟩
theorem SrvS.add {w wr w' : World} {n : Nat} {l : List Wi} {fv tv v' : Value} {H : List Int} {x : Wi} {t : Int} (h : SrvS w wr n l fv tv H) (ht : t = servT (after (zeros n) l) x) (h' : w'.ownsRow w.heap.size 3 1 v' ((run (zeros n) l).length + 1) (ints (run (zeros n) l) ++ [.int .i64 t])) (hg : wr.grownBy w' tv.ownBlock) (hat : v'.ownBlock = tv.ownBlock ∨ v'.ownBlock = some wr.heap.size) :
    Own w' w.heap.size fv H ∧ Own w' w.heap.size v' (run (zeros n) (l ++ [x])) ∧ FarV fv v' ∧ Below w.heap.size w w' := by
  obtain ⟨h2, h3, h4, h5, h6⟩ := h
  refine ⟨row_kept h3.out hg (fun k hk e => h5 k hk e), ?_, farV_step h5 hat (fun k hk => (h3.out.lt k hk).2), h6.grown hg h6.size (fun k hk => (h4.out.lt k hk).1)⟩
  unfold Own
  rw [run_app, List.length_append, ints_app]
  subst ht
  exact h'
/-- A free time has been written. -/
theorem SrvS.put {w wr : World} {n g c i : Nat} {l : List Wi} {tv : Value} {H R : List Int} (h : SrvS w wr n l (.slice (some ⟨g, 0, none⟩) n c) tv H) (hl : H.length = n) {y : Int} (hR : H.set i y = R) :
    Own (wr.setCell ⟨g, i, none⟩ (.int .i64 y)) w.heap.size (.slice (some ⟨g, 0, none⟩) n c) R ∧ Own (wr.setCell ⟨g, i, none⟩ (.int .i64 y)) w.heap.size tv (run (zeros n) l) ∧ Below w.heap.size w (wr.setCell ⟨g, i, none⟩ (.int .i64 y)) := by
  have hr : wr.ownsRow w.heap.size 3 1 (.slice (some ⟨g, 0, none⟩) n c) n (ints H) := by have hh := h.free.out; rw [hl] at hh; exact hh
  have hp := row_put hr i (.int .i64 y)
  rw [ints_set, hR] at hp
  obtain ⟨hgb, _⟩ := row_base hr
  refine ⟨by unfold Own; rw [← hR, List.length_set, hl, hR]; exact hp, row_kept h.times.out (grown_set wr g i _) (fun k hk e => ?_), h.below.setCell hgb _⟩
  injection e with e
  subst e
  exact h.far _ rfl hk

theorem max_least {F f : List Int} {i : Nat} (hp : F.Perm f) (ha : Asc f) (hn : f ≠ []) (hi : i < F.length) (hm : ∀ j, j < F.length → at_ F i ≤ at_ F j) : at_ F i = f.headD 0 := by
  have h1 : at_ F i ∈ f := hp.mem_iff.1 (by rw [at_get hi]; exact List.getElem_mem hi)
  have h2 := head_le ha h1
  obtain ⟨j, hj, e⟩ := List.mem_iff_getElem.1 (hp.mem_iff.2 (head_mem hn))
  have h3 := hm j hj
  rw [at_get hj, e] at h3
  omega

theorem cell_one_at {w : World} {N : Nat} (hN : w.heap.size = N) (x : Value) (t : TypeId) : ∀ j u, [x][j]? = some u → (w.alloc (.cells #[x] t)).cell? ((⟨N, 0, none⟩ : Addr).add j) = some u := by subst hN; exact cell_one_new w x t
set_option maxHeartbeats 8000000 in
theorem sserve_any (A : Option Addr) (c : Nat) (l : List Wi) (n : Nat) (w : World) (h : Sees w w.heap.size A (strip wcells l)) (hn : l.length ≤ 4194304) (hw : wishB l = true) (hn0 : 0 < n) (hn6 : n ≤ 6) :
    Calls Try.prog 32 #[.slice A l.length c, .int .i64 (n : Int)] w fun e w' => ∃ v, e = .returned v ∧ Own w' w.heap.size v (run (zeros n) l) ∧ Below w.heap.size w w' := by
  obtain ⟨i0, hi0, hz0, hz1, hz2⟩ := info_parts intInfo
  have HN := hid hn; clear hn
  have HW := hid hw; clear hw
  go_enter Try.func32, Try.ntmps32
  have hm0 := Own.made w w.heap.size (Nat.le_refl _)
  go_wp2_with (refine wpList_make_full _ rfl _ _ 29 rfl (w.heap.size + 1) 3 i0 (.int .i64 0) 1 Try.underlying29 hi0 hz0 hz1 .i64 .i64 n n n rfl rfl rfl rfl (by rw [hz2]; omega) (by unfold maxLen; omega) (by simp) ?_)
  case _ =>
    intro w2 h2 hg2
    have hv : ∃ v, v = Value.slice (some ⟨w.heap.size + 1, 0, none⟩) n n := ⟨_, rfl⟩
    have hb2 : Below w.heap.size w w2 := ((Below.refl _ _).alloc (Nat.le_refl _) _).grown hg2 (by simp) (fun k hk => by cases hk)
    have ho2 : Own w2 w.heap.size (.slice (some ⟨w.heap.size + 1, 0, none⟩) n n) (List.replicate n 0) := by
      refine Own.mono (base := w.heap.size + 1) ?_ (by omega)
      unfold Own; rw [List.length_replicate, ← made_ints]; simpa using h2
    have ht2 : Own w2 w.heap.size (.slice (some ⟨w.heap.size, 0, none⟩) 0 0) [] := row_kept hm0.out hg2 (fun k hk e => by cases e)
    have s0 : SrvS w w2 n (l.take 0) (.slice (some ⟨w.heap.size + 1, 0, none⟩) n n) (.slice (some ⟨w.heap.size, 0, none⟩) 0 0) (List.replicate n 0) := ⟨List.Perm.refl _, ho2, ht2, fun k h1 h2 => by simp [Value.ownBlock] at h1 h2; omega, hb2⟩
    have S0 := hid s0
    clear h2 hg2 ho2 hb2 s0 hm0 ht2 hv
    go_wp2
    go_loopw [5, 7] (fun tv i wr => ∃ (k : Nat) (H : List Int), k ≤ l.length ∧ i = .int .i64 k ∧ Hid (SrvS w wr n (l.take k) (.slice (some ⟨w.heap.size + 1, 0, none⟩) n n) tv H)) (fun _ i _ => l.length - (intOf i).toNat)
    case atStart => exact ⟨0, _, Nat.zero_le _, rfl, S0⟩
    case round =>
      clear S0
      obtain ⟨k, H, hk, rfl, HS⟩ := hrel
      have hb := HS.out.below
      have hz := hb.size
      have hn := HN.out
      by_cases hlt : k < l.length
      · have hi : (k : Int) < (l.length : Int) := by omega
        obtain ⟨b, o, rfl, hbl, e0, e1, e2⟩ := (h.below hb).wish hlt
        have hbw : b < wr.heap.size := by omega
        have hst := state_in HW.out hn0 k
        have hne : after (zeros n) (l.take k) ≠ [] := after_ne (zeros_ne hn0)
        have hlen : H.length = n := by rw [HS.out.perm.length_eq, after_len (zeros_ne hn0)]; simp [zeros]
        have hok := ok_of hlt HW.out
        have HRS := hid (run_succ (f := zeros n) hlt)
        have HAS := hid (after_succ (f := zeros n) hlt)
        have HTS := hid (List.take_succ_eq_append_getElem hlt)
        obtain ⟨x, hx⟩ : ∃ x, x = l[k] := ⟨_, rfl⟩
        rw [← hx] at e0 e1 e2 hok HRS HAS HTS
        clear hx
        have hrow : wr.ownsRow w.heap.size 3 1 (.slice (some ⟨w.heap.size + 1, 0, none⟩) n n) n (ints H) := by have hh := HS.out.free.out; rw [hlen] at hh; exact hh
        have HROW := hid hrow
        obtain ⟨hgb, hgw⟩ := row_base hrow
        have HLEN := hid hlen
        have hsb := soon_bd hok hst hne
        have HST := hid hst
        have HNE := hid hne
        obtain ⟨F, hF⟩ : ∃ F, F = after (zeros n) (l.take k) := ⟨_, rfl⟩
        have HF := hid hF.symm
        rw [← hF] at hsb HRS HAS HST HNE
        have HOK := hid hok
        have HSB := hid hsb
        clear hst hne hF hok hlen hsb hrow
        go_wp2_with fail
        refine (soonest_any _ n n H _ HLEN.out (Sees.of_own HROW.out) hn0 (by omega)).mono ?_
        rintro e w3 ⟨q, rfl, hq, hmin, d, rfl⟩
        have hql : q < n := by rw [← HLEN.out]; exact hq
        have hH0 := max_least (by rw [← HF.out]; exact HS.out.perm) HST.out.1 HNE.out hq hmin
        have ef := row_int HROW.out hq
        rw [← at_get hq, hH0] at ef
        have HGQ := hid (show H[q] = F.headD 0 by rw [← at_get hq]; exact hH0)
        obtain ⟨S, hS⟩ : ∃ S, S = soon F x := ⟨_, rfl⟩
        have HSM := hid (show max x.a (F.headD 0) = S from hS.symm)
        have HSO := hid hS.symm
        have hsb := HSB.out
        rw [← hS] at hsb
        obtain ⟨hsb0, hsb1, hsb2⟩ := hsb
        obtain ⟨ok1, ok2, ok3, ok4, ok5, ok6⟩ := Wi.ok_iff.1 HOK.out
        obtain ⟨hd, hhd⟩ : ∃ hd, hd = F.headD 0 := ⟨_, rfl⟩
        rw [← hhd] at ef HSM
        clear hH0 hS hhd hmin HSB
        have hw1 : IntKind.i64.wrap (x.a + x.p) = x.a + x.p := by rw [IntKind.wrap_i64]; omega
        have hw2 : IntKind.i64.wrap (S + x.h) = S + x.h := by rw [IntKind.wrap_i64]; omega
        have hrl : (run (zeros n) (l.take k)).length ≤ 4194304 := by rw [run_len, List.length_take]; omega
        have hqi : (q : Int) < (n : Int) := by omega
        have hq0 : (0 : Int) ≤ (q : Int) := by omega
        have hki0 : (0 : Int) ≤ (k : Int) := by omega
        have hfr := row_thaw HROW.out
        have hgt0 : x.a < hd ∨ x.a = hd ∨ hd < x.a := by omega
        have HSM2 := HSM.out
        rcases hgt0 with hc | hc | hc
        · have hSV : S = hd := by omega
          by_cases hgt : hd > x.a + x.p
          · skip
            have HT : Hid (servT F x = -1) := hid (by unfold servT okAt; rw [show soon F x = hd by rw [HSO.out]; exact hSV]; rw [if_neg (by simp; omega)])
            have HFF : Hid (servF F x = F) := hid (by unfold servF okAt; rw [show soon F x = hd by rw [HSO.out]; exact hSV]; rw [if_neg (by simp; omega)])
            have HSV := hid hSV
            clear hSV hw2 hsb0 hsb1 hsb2 HSM HSM2
            go_wp2
            go_quiet (fail)
            go_wp2
            go_quiet (fail)
            have HSq := hid (HS.out.drewN 0)
            clear HSq
            go_wp2_with (at_builtin; refine wpList_append_own_at _ rfl _ _ 29 rfl w.heap.size 3 i0 (.int .i64 0) 1 8 Try.underlying29 hi0 hz0 hz1 hz2 rfl (by decide) _ _ _ rfl (show World.ownsRow _ _ _ _ _ _ _ from own_alloc (by first | exact HS.out.times.out | exact (HS.out.drewN _).times.out) _) ⟨wr.heap.size, 0, none⟩ 1 1 [.int .i64 (-1)] rfl rfl (by first | exact cell_one_new _ _ _ | simpa using cell_one_new wr (.int .i64 (-1)) 3) ?b2 ?b3 ?b4 ?b5 ?_)
            case b2 => simp [Value.oneCell']
            case b3 => unfold maxLen; omega
            case b4 => omega
            case b5 => simp; omega
            case _ =>
              intro v1 w3 h1 hg1 _ hat
              obtain ⟨a1, a2, a3, a4⟩ := (HS.out.alloc (.cells #[.int .i64 (-1)] 3)).add (x := x) (by rw [HF.out, HT.out]) h1 (show World.grownBy _ _ _ from ⟨hg1.os, hg1.tape, hg1.output, hg1.size, hg1.block⟩) (by simpa using hat)
              have HS3 := hid (show SrvS w w3 n (l.take (k + 1)) _ _ H from ⟨by rw [HAS.out, HFF.out, ← HF.out]; exact HS.out.perm, a1, by rw [HTS.out]; exact a2, a3, a4⟩)
              clear h1 hg1 hat a1 a2 a3 a4
              go_wp2
              go_roundw
              case rel => exact ⟨k + 1, H, by omega, by go_num, HS3⟩
              case measure => simp [intOf]; omega
          · skip
            have HT : Hid (servT F x = hd) := hid (by unfold servT okAt; rw [show soon F x = hd by rw [HSO.out]; exact hSV]; rw [if_pos (by simp; omega)])
            have HFF : Hid (servF F x = ins (hd + x.h) F.tail) := hid (by unfold servF okAt; rw [show soon F x = hd by rw [HSO.out]; exact hSV]; rw [if_pos (by simp; omega)])
            have hwx : IntKind.i64.wrap (hd + x.h) = hd + x.h := by rw [IntKind.wrap_i64]; omega
            have HSV := hid hSV
            clear hSV hw2 hsb0 hsb1 hsb2 HSM HSM2
            have hsq := HS.out.put HLEN.out (i := q) (y := hd + x.h) rfl
            have HSQ := hid hsq
            clear hsq
            go_wp2
            go_quiet (fail)
            go_wp2
            go_quiet (fail)
            obtain ⟨b1, b2, b3⟩ := HSQ.out
            go_wp2_with (at_builtin; refine wpList_append_own_at _ rfl _ _ 29 rfl w.heap.size 3 i0 (.int .i64 0) 1 8 Try.underlying29 hi0 hz0 hz1 hz2 rfl (by decide) _ _ _ rfl (show World.ownsRow _ _ _ _ _ _ _ from own_alloc (by exact b2.out) _) ⟨wr.heap.size, 0, none⟩ 1 1 [.int .i64 (hd)] rfl rfl (cell_one_at (by simp) _ _) ?c2 ?c3 ?c4 ?c5 ?_)
            case c2 => simp [Value.oneCell']
            case c3 => unfold maxLen; omega
            case c4 => omega
            case c5 => simp; omega
            case _ =>
              intro v1 w3 h1 hg1 _ hat
              have c1 := row_kept (own_alloc b1.out (.cells #[.int .i64 (hd)] 3)) (show World.grownBy _ _ _ from ⟨hg1.os, hg1.tape, hg1.output, hg1.size, hg1.block⟩) (fun q hq e => HS.out.far q hq e)
              have c2 : Own w3 w.heap.size v1 (run (zeros n) (l.take (k + 1))) := by rw [HTS.out]; unfold Own; rw [run_app, List.length_append, ints_app]; rw [show run (after (zeros n) (l.take k)) [x] = [hd] by rw [HF.out]; show [servT F x] = _; rw [HT.out]]; exact h1
              have c3 : FarV (.slice (some ⟨w.heap.size + 1, 0, none⟩) n n) v1 := farV_step HS.out.far (show v1.ownBlock = _ ∨ v1.ownBlock = some (wr.heap.size + 1) by simpa using hat) (fun q hq => by have := (HS.out.free.out.lt q hq).2; omega)
              have c4 : Below w.heap.size w w3 := (b3.alloc b3.size (.cells #[.int .i64 (hd)] 3)).grown (show World.grownBy _ _ _ from ⟨hg1.os, hg1.tape, hg1.output, hg1.size, hg1.block⟩) (by have := b3.size; simp at this ⊢; omega) (fun q hq => (HS.out.times.out.lt q hq).1)
              have HS3 := hid (show SrvS w w3 n (l.take (k + 1)) (.slice (some ⟨w.heap.size + 1, 0, none⟩) n n) v1 (H.set q (hd + x.h)) from ⟨by rw [HAS.out, HFF.out]; exact least_perm_at (by rw [← HF.out]; exact HS.out.perm) hq HGQ.out HNE.out, c1, c2, c3, c4⟩)
              clear h1 hg1 hat b1 b2 b3 c1 c2 c3 c4
              go_wp2
              go_roundw
              case rel => exact ⟨k + 1, H.set q (hd + x.h), by omega, by go_num, HS3⟩
              case measure => simp [intOf]; omega
        · have hSV : S = x.a := by omega
          have HC := hid hc
          rw [← hc] at ef
          clear hc
          have hnl : ¬ x.a < x.a := by omega
          have hgt : ¬ x.a > x.a + x.p := by omega
          have HT : Hid (servT F x = x.a) := hid (by unfold servT okAt; rw [show soon F x = x.a by rw [HSO.out]; exact hSV]; rw [if_pos (by simp; omega)])
          have HFF : Hid (servF F x = ins (x.a + x.h) F.tail) := hid (by unfold servF okAt; rw [show soon F x = x.a by rw [HSO.out]; exact hSV]; rw [if_pos (by simp; omega)])
          have hwx : IntKind.i64.wrap (x.a + x.h) = x.a + x.h := by rw [IntKind.wrap_i64]; omega
          have HSV := hid hSV
          clear hSV hw2 hsb0 hsb1 hsb2 HSM HSM2
          have hsq := HS.out.put HLEN.out (i := q) (y := x.a + x.h) rfl
          have HSQ := hid hsq
          clear hsq
          go_wp2
          go_quiet (fail)
          go_wp2
          go_quiet (fail)
          obtain ⟨b1, b2, b3⟩ := HSQ.out
          go_wp2_with (at_builtin; refine wpList_append_own_at _ rfl _ _ 29 rfl w.heap.size 3 i0 (.int .i64 0) 1 8 Try.underlying29 hi0 hz0 hz1 hz2 rfl (by decide) _ _ _ rfl (show World.ownsRow _ _ _ _ _ _ _ from own_alloc (by exact b2.out) _) ⟨wr.heap.size, 0, none⟩ 1 1 [.int .i64 (x.a)] rfl rfl (cell_one_at (by simp) _ _) ?d2 ?d3 ?d4 ?d5 ?_)
          case d2 => simp [Value.oneCell']
          case d3 => unfold maxLen; omega
          case d4 => omega
          case d5 => simp; omega
          case _ =>
            intro v1 w3 h1 hg1 _ hat
            have c1 := row_kept (own_alloc b1.out (.cells #[.int .i64 (x.a)] 3)) (show World.grownBy _ _ _ from ⟨hg1.os, hg1.tape, hg1.output, hg1.size, hg1.block⟩) (fun q hq e => HS.out.far q hq e)
            have c2 : Own w3 w.heap.size v1 (run (zeros n) (l.take (k + 1))) := by rw [HTS.out]; unfold Own; rw [run_app, List.length_append, ints_app]; rw [show run (after (zeros n) (l.take k)) [x] = [x.a] by rw [HF.out]; show [servT F x] = _; rw [HT.out]]; exact h1
            have c3 : FarV (.slice (some ⟨w.heap.size + 1, 0, none⟩) n n) v1 := farV_step HS.out.far (show v1.ownBlock = _ ∨ v1.ownBlock = some (wr.heap.size + 1) by simpa using hat) (fun q hq => by have := (HS.out.free.out.lt q hq).2; omega)
            have c4 : Below w.heap.size w w3 := (b3.alloc b3.size (.cells #[.int .i64 (x.a)] 3)).grown (show World.grownBy _ _ _ from ⟨hg1.os, hg1.tape, hg1.output, hg1.size, hg1.block⟩) (by have := b3.size; simp at this ⊢; omega) (fun q hq => (HS.out.times.out.lt q hq).1)
            have HS3 := hid (show SrvS w w3 n (l.take (k + 1)) (.slice (some ⟨w.heap.size + 1, 0, none⟩) n n) v1 (H.set q (x.a + x.h)) from ⟨by rw [HAS.out, HFF.out]; exact least_perm_at (by rw [← HF.out]; exact HS.out.perm) hq HGQ.out HNE.out, c1, c2, c3, c4⟩)
            clear h1 hg1 hat b1 b2 b3 c1 c2 c3 c4
            go_wp2
            go_roundw
            case rel => exact ⟨k + 1, H.set q (x.a + x.h), by omega, by go_num, HS3⟩
            case measure => simp [intOf]; omega
        · have hSV : S = x.a := by omega
          have hgt : ¬ x.a > x.a + x.p := by omega
          have HT : Hid (servT F x = x.a) := hid (by unfold servT okAt; rw [show soon F x = x.a by rw [HSO.out]; exact hSV]; rw [if_pos (by simp; omega)])
          have HFF : Hid (servF F x = ins (x.a + x.h) F.tail) := hid (by unfold servF okAt; rw [show soon F x = x.a by rw [HSO.out]; exact hSV]; rw [if_pos (by simp; omega)])
          have hwx : IntKind.i64.wrap (x.a + x.h) = x.a + x.h := by rw [IntKind.wrap_i64]; omega
          have HSV := hid hSV
          clear hSV hw2 hsb0 hsb1 hsb2 HSM HSM2
          have hsq := HS.out.put HLEN.out (i := q) (y := x.a + x.h) rfl
          have HSQ := hid hsq
          clear hsq
          go_wp2
          go_quiet (fail)
          go_wp2
          go_quiet (fail)
          obtain ⟨b1, b2, b3⟩ := HSQ.out
          go_wp2_with (at_builtin; refine wpList_append_own_at _ rfl _ _ 29 rfl w.heap.size 3 i0 (.int .i64 0) 1 8 Try.underlying29 hi0 hz0 hz1 hz2 rfl (by decide) _ _ _ rfl (show World.ownsRow _ _ _ _ _ _ _ from own_alloc (by exact b2.out) _) ⟨wr.heap.size, 0, none⟩ 1 1 [.int .i64 (x.a)] rfl rfl (cell_one_at (by simp) _ _) ?e2 ?e3 ?e4 ?e5 ?_)
          case e2 => simp [Value.oneCell']
          case e3 => unfold maxLen; omega
          case e4 => omega
          case e5 => simp; omega
          case _ =>
            intro v1 w3 h1 hg1 _ hat
            have c1 := row_kept (own_alloc b1.out (.cells #[.int .i64 (x.a)] 3)) (show World.grownBy _ _ _ from ⟨hg1.os, hg1.tape, hg1.output, hg1.size, hg1.block⟩) (fun q hq e => HS.out.far q hq e)
            have c2 : Own w3 w.heap.size v1 (run (zeros n) (l.take (k + 1))) := by rw [HTS.out]; unfold Own; rw [run_app, List.length_append, ints_app]; rw [show run (after (zeros n) (l.take k)) [x] = [x.a] by rw [HF.out]; show [servT F x] = _; rw [HT.out]]; exact h1
            have c3 : FarV (.slice (some ⟨w.heap.size + 1, 0, none⟩) n n) v1 := farV_step HS.out.far (show v1.ownBlock = _ ∨ v1.ownBlock = some (wr.heap.size + 1) by simpa using hat) (fun q hq => by have := (HS.out.free.out.lt q hq).2; omega)
            have c4 : Below w.heap.size w w3 := (b3.alloc b3.size (.cells #[.int .i64 (x.a)] 3)).grown (show World.grownBy _ _ _ from ⟨hg1.os, hg1.tape, hg1.output, hg1.size, hg1.block⟩) (by have := b3.size; simp at this ⊢; omega) (fun q hq => (HS.out.times.out.lt q hq).1)
            have HS3 := hid (show SrvS w w3 n (l.take (k + 1)) (.slice (some ⟨w.heap.size + 1, 0, none⟩) n n) v1 (H.set q (x.a + x.h)) from ⟨by rw [HAS.out, HFF.out]; exact least_perm_at (by rw [← HF.out]; exact HS.out.perm) hq HGQ.out HNE.out, c1, c2, c3, c4⟩)
            clear h1 hg1 hat b1 b2 b3 c1 c2 c3 c4
            go_wp2
            go_roundw
            case rel => exact ⟨k + 1, H.set q (x.a + x.h), by omega, by go_num, HS3⟩
            case measure => simp [intOf]; omega
      · have hi : ¬ (k : Int) < (l.length : Int) := by omega
        have ht := HS.out.times
        rw [take_whole hlt] at ht
        go_wp2
        go_ret
        exact ⟨_, rfl, ht, hb⟩

end Go.Proofs.Ytolcnokmdohbaaa
