/-
  What the program's replaceLeast and ServeTimes answer. Condition: the list lies in memory.
-/
import Derived.Test.YtolcnokmdohbaaaWiB
import Derived.Test.YtolcnokmdohbaaaOwnI
import Derived.Test.YtolcnokmdohbaaaExA
import Derived.Test.YtolcnokmdohbaaaApp
namespace Go.Proofs.Ytolcnokmdohbaaa
open Go.RowKit Wis

theorem Own.alloc5 {w : World} {base : Nat} {v : Value} {ys : List Int} (h : Own w base v ys) (o : Obj) : Own (w.alloc o) base v ys := h.below ((Below.refl _ _).alloc (Nat.le_refl _) o)
theorem ints_set (l : List Int) (i : Nat) (x : Int) : (ints l).set i (.int .i64 x) = ints (l.set i x) := by simp [ints, List.map_set]
/-- An own row of some numbers lies in one block. -/
theorem own_row {w : World} {base : Nat} {v : Value} {ys : List Int} (h : Own w base v ys) (hn : 0 < ys.length) : ∃ g c, v = .slice (some ⟨g, 0, none⟩) ys.length c ∧ ys.length ≤ c := by
  rcases h.2 with ⟨_, e⟩ | ⟨g, cap, cur, e, _, _, h1, h2, _⟩
  · omega
  · exact ⟨g, cap, e, h1⟩
theorem row_int {w : World} {base g n c : Nat} {ys : List Int} (h : w.ownsRow base 3 1 (.slice (some ⟨g, 0, none⟩) n c) n (ints ys)) {i : Nat} (hi : i < ys.length) : w.cell? ⟨g, i, none⟩ = some (.int .i64 ys[i]) := by
  obtain ⟨b, o, e, _, hc⟩ := (Sees.of_own h).int hi
  injection e with e
  injection e with e1 e2
  subst e1 e2
  simpa using hc
def FarV (v v' : Value) : Prop := ∀ k, v.ownBlock = some k → v'.ownBlock ≠ some k
theorem FarV.symm {v v' : Value} (h : FarV v v') : FarV v' v := fun k h1 h2 => h k h2 h1
theorem farV_step {v v1 v' : Value} {n : Nat} (h : FarV v v1) (hat : v'.ownBlock = v1.ownBlock ∨ v'.ownBlock = some n) (hl : ∀ k, v.ownBlock = some k → k < n) : FarV v v' := fun k h1 h2 => by
  rcases hat with e | e
  · exact h k h1 (e ▸ h2)
  · rw [e] at h2; injection h2 with h2; have := hl k h1; omega

set_option maxHeartbeats 1000000 in
theorem wcopyNumbers_any (A : Option Addr) (c : Nat) (l : List Int) (w : World) (h : Sees w w.heap.size A (ints l)) (hn : l.length ≤ 4194304) :
    Calls Try.prog 41 #[.slice A l.length c] w fun e w' => ∃ v, e = .returned v ∧ Own w' w.heap.size v (l) ∧ Below w.heap.size w w' := by
  obtain ⟨i0, hi0, hz0, hz1, hz2⟩ := info_parts intInfo
  have HN := hid hn; clear hn
  go_enter Try.func41, Try.ntmps41
  go_wp2
  go_loopw [3, 8] (fun v i wr => ∃ k : Nat, k ≤ l.length ∧ i = .int .i64 k ∧ Own wr w.heap.size v ((l.take k)) ∧ Below w.heap.size w wr) (fun _ i _ => l.length - (intOf i).toNat)
  case atStart => exact ⟨0, Nat.zero_le _, rfl, Own.none_ _ _, Below.refl _ _⟩
  case round =>
    obtain ⟨k, hk, rfl, ho, hb⟩ := hrel
    have hn := HN.out
    by_cases hlt : k < l.length
    · have hi : (k : Int) < (l.length : Int) := by omega
      obtain ⟨b, o, rfl, hbl, e0⟩ := (h.below hb).int hlt
      have hz := hb.size
      have hbw : b < wr.heap.size := by omega
      have HX : Hid (l.take (k + 1) = l.take k ++ [l[k]]) := hid (List.take_succ_eq_append_getElem hlt)
      obtain ⟨x, hx⟩ : ∃ x, x = l[k] := ⟨_, rfl⟩
      rw [← hx] at HX e0
      clear hx
      have hrl : ((l.take k)).length ≤ 4194304 := by rw [List.length_take]; omega
      obtain ⟨R, hR⟩ : ∃ R, R = (l.take k) := ⟨_, rfl⟩
      rw [← hR] at HX ho hrl
      clear hR
      go_wp2_with (at_builtin; refine wpList_append_own _ rfl _ _ 29 rfl w.heap.size 3 i0 (.int .i64 0) 1 8 Try.underlying29 hi0 hz0 hz1 hz2 rfl (by decide) _ _ _ rfl (ho.alloc5 _).out ⟨wr.heap.size, 0, none⟩ 1 1 [.int .i64 x] rfl rfl (cell_one_new _ _ _) ?c2 ?c3 ?c4 ?c5 ?_)
      case c2 => simp [Value.oneCell']
      case c3 => unfold maxLen; omega
      case c4 => omega
      case c5 => simp; omega
      case _ =>
        intro v1 w3 h1 hg1 _
        obtain ⟨ho1, hb1⟩ := ho.snoc (x := x) hb (Nat.le_refl _) h1 hg1
        clear h1 hg1
        go_wp2
        go_roundw
        case rel => exact ⟨k + 1, by omega, by go_num, by rw [HX.out]; exact ho1, hb1⟩
        case measure => simp [intOf]; omega
    · have hi : ¬ (k : Int) < (l.length : Int) := by omega
      rw [take_whole hlt] at ho
      go_wp2
      go_ret
      exact ⟨_, rfl, ho, hb⟩

theorem lesserChild_at {A : Option Addr} {c n p : Nat} {H : List Int} {q : Int} {w : World} {B : Nat} (hq : q = (p : Int)) (hl : H.length = n) (h : Sees w B A (ints H)) (hn : n ≤ 100) (hp : p ≤ 100) :
    Calls Try.prog 42 #[.slice A n c, .int .i64 q] w fun e w' => e = .returned (.int .i64 (lesser H p)) ∧ ∃ k, w' = w.drewN k := by
  subst hq hl; exact lesserChild_any A c H p w h (by omega) (by omega)
/-- A heap of the call's own in which the least number is replaced. -/
def RepAns (H : List Int) (t : Int) (w : World) (e : Ending) (w' : World) : Prop := ∃ (v : Value) (R : List Int), e = .returned v ∧ Own w' w.heap.size v R ∧ IsHeap R ∧ R.Perm (H.set 0 t) ∧ R.length = H.length ∧ Below w.heap.size w w'
set_option maxHeartbeats 4000000 in
theorem replaceLeast_any (A : Option Addr) (c : Nat) (H : List Int) (t : Int) (w : World) (h : Sees w w.heap.size A (ints H)) (hp : IsHeap H) (hn0 : 0 < H.length) (hn : H.length ≤ 100) :
    Calls Try.prog 35 #[.slice A H.length c, .int .i64 t] w (RepAns H t w) := by
  have HP := hid hp
  have HN0 := hid hn0
  have HN := hid hn
  clear hp hn0 hn
  go_enter Try.func35, Try.ntmps35
  go_wp2_with fail
  refine (wcopyNumbers_any A c H _ h (by have := HN.out; omega)).mono ?_
  rintro e w1 ⟨v1, rfl, ho1, hb1⟩
  obtain ⟨g, cc, rfl, hcc⟩ := own_row ho1 HN0.out
  have hr1 : w1.ownsRow w.heap.size 3 1 (.slice (some ⟨g, 0, none⟩) H.length cc) H.length (ints H) := ho1.out
  obtain ⟨n, hnn⟩ : ∃ n, n = H.length := ⟨_, rfl⟩
  have HL := hid hnn.symm
  rw [← hnn] at hr1 ⊢
  have hn0 : 0 < n := by rw [hnn]; exact HN0.out
  have hn1 : n ≤ 100 := by rw [hnn]; exact HN.out
  clear ho1 hcc hnn
  go_wp2_with fail
  refine (lesserChild_at (p := 0) (H := H) rfl HL.out (Sees.of_own hr1) hn1 (by omega)).mono ?_
  rintro e w2 ⟨rfl, k2, rfl⟩
  have hr2 : (w1.drewN k2).ownsRow w.heap.size 3 1 (.slice (some ⟨g, 0, none⟩) n cc) n (ints H) := hr1
  have hb2 := below_drewN hb1 k2
  clear hr1 hb1
  go_wp2
  go_loopw [6, 7] (fun pl ch wr => ∃ (p : Nat) (K : List Int), pl = .int .i64 p ∧ ch = .int .i64 (lesser K p) ∧ Hid (K.length = n) ∧ Hid (Hole K p t) ∧ Hid ((K.set p t).Perm (H.set 0 t)) ∧ wr.ownsRow w.heap.size 3 1 (.slice (some ⟨g, 0, none⟩) n cc) n (ints K) ∧ Below w.heap.size w wr) (fun pl _ _ => n - (intOf pl).toNat)
  case atStart => exact ⟨0, H, rfl, rfl, HL, hid (hole_start HP.out HN0.out t), hid (List.Perm.refl _), hr2, hb2⟩
  case round =>
    clear hr2 hb2
    obtain ⟨p, K, rfl, rfl, HK, HH, HPe, hr, hb⟩ := hrel
    have hpn : p < n := by have := HH.out.1; have := HK.out; omega
    have hpi : (p : Int) < (n : Int) := by omega
    have hp0 : (0 : Int) ≤ (p : Int) := by omega
    have ep := row_int hr (show p < K.length by rw [HK.out]; exact hpn)
    have hfr := row_thaw hr
    have hput := row_put hr p (.int .i64 t)
    rw [ints_set] at hput
    have HPUT := hid hput
    clear hput
    obtain ⟨hgb, hgw⟩ := row_base hr
    have hbt := hb.setCell (p := ⟨g, p, none⟩) hgb (.int .i64 t)
    obtain ⟨kp, hkp⟩ : ∃ y, y = K[p]'(by rw [HK.out]; exact hpn) := ⟨_, rfl⟩
    rw [← hkp] at ep
    clear hkp
    rcases lesser_cases K p with ⟨hc, _⟩ | ⟨c', hc, hcl, hcc', _⟩
    · have HE := hid (hole_end HH.out (.inl hc))
      rw [hc]
      clear hc
      go_wp2
      go_ret
      exact ⟨_, K.set p t, rfl, by unfold Own; rw [List.length_set, HK.out]; exact HPUT.out, HE.out, HPe.out, by rw [List.length_set, HK.out]; exact HL.out.symm, hbt⟩
    · have hcn : c' < n := by rw [← HK.out]; exact hcl
      have hci : (c' : Int) < (n : Int) := by omega
      have hc0 : (0 : Int) ≤ (c' : Int) := by omega
      have hne : ((c' : Int) != -1) = true := by first | (simp; done) | (simp; omega)
      have ec := row_int hr hcl
      have hpc : p ≠ c' := by omega
      by_cases hlt : at_ K c' < t
      · obtain ⟨hs1, hs2⟩ := hole_step HH.out hc hlt
        have HS1 := hid hs1
        have HPe2 := hid ((set_swap_perm (show p < K.length by rw [HK.out]; exact hpn) hcl hpc t).trans HPe.out)
        have hput := row_put hr p (.int .i64 (at_ K c'))
        rw [ints_set] at hput
        have hbp := hb.setCell (p := ⟨g, p, none⟩) hgb (.int .i64 (at_ K c'))
        rw [← at_get hcl] at ec
        rw [hc]
        obtain ⟨y, hy⟩ : ∃ y, y = at_ K c' := ⟨_, rfl⟩
        rw [← hy] at ec hlt HS1 HPe2 hput hbp
        have HC := hid hc
        have HCC := hid hcc'
        clear hs1 hs2 hy hc hpc hcl hcc' HPUT hbt
        go_wp2_with fail
        refine (lesserChild_at (p := c') (H := K.set p y) rfl (by rw [List.length_set]; exact HK.out) (Sees.of_own hput) hn1 (by omega)).mono ?_
        rintro e w3 ⟨rfl, k3, rfl⟩
        go_wp2
        go_roundw
        case rel => exact ⟨c', K.set p y, rfl, rfl, hid (by rw [List.length_set]; exact HK.out), HS1, HPe2, hput, below_drewN hbp _⟩
        case measure => have := HCC.out; simp [intOf]; omega
      · have HE := hid (hole_end HH.out (.inr ⟨c', hc, hlt⟩))
        rw [← at_get hcl] at ec
        rw [hc]
        obtain ⟨y, hy⟩ : ∃ y, y = at_ K c' := ⟨_, rfl⟩
        rw [← hy] at ec hlt
        clear hy hc hpc hcl hcc'
        go_wp2
        go_ret
        exact ⟨_, K.set p t, rfl, by unfold Own; rw [List.length_set, HK.out]; exact HPUT.out, HE.out, HPe.out, by rw [List.length_set, HK.out]; exact HL.out.symm, hbt⟩

theorem replaceLeast_at {A : Option Addr} {c n : Nat} {H : List Int} {t : Int} {w : World} (hl : H.length = n) (h : Sees w w.heap.size A (ints H)) (hp : IsHeap H) (hn0 : 0 < n) (hn : n ≤ 100) :
    Calls Try.prog 35 #[.slice A n c, .int .i64 t] w (RepAns H t w) := by
  subst hl; exact replaceLeast_any A c H t w h hp hn0 hn
theorem serve_okAt {f : List Int} {x : Wi} (h : okAt f x = true) : soon f x ≤ x.a + x.p := of_decide_eq_true h
/-- Two lists of numbers of the call's own: the times at which connections are free, as a heap, and those at which wishes are served. -/
structure Srv (w wr : World) (n : Nat) (l : List Wi) (fv tv : Value) (H : List Int) : Prop where
  heap : IsHeap H
  perm : H.Perm (after (zeros n) l)
  free : Own wr w.heap.size fv H
  times : Own wr w.heap.size tv (run (zeros n) l)
  far : FarV fv tv
  below : Below w.heap.size w wr
theorem zeros_heap (n : Nat) : IsHeap (List.replicate n 0) := by
  intro i h0 hi
  rw [List.length_replicate] at hi
  rw [at_get (by simp; omega), at_get (by simpa using hi)]
  simp
theorem Srv.drewN {w wr : World} {n : Nat} {l : List Wi} {fv tv : Value} {H : List Int} (h : Srv w wr n l fv tv H) (k : Nat) : Srv w (wr.drewN k) n l fv tv H := ⟨h.heap, h.perm, h.free, h.times, h.far, below_drewN h.below k⟩
theorem Srv.alloc {w wr : World} {n : Nat} {l : List Wi} {fv tv : Value} {H : List Int} (h : Srv w wr n l fv tv H) (o : Obj) : Srv w (wr.alloc o) n l fv tv H := ⟨h.heap, h.perm, h.free.alloc5 o, h.times.alloc5 o, h.far, h.below.alloc h.below.size o⟩
/-- A time has been put behind the others. -/
theorem Srv.add {w wr w' : World} {n : Nat} {l : List Wi} {fv tv v' : Value} {H : List Int} {x : Wi} {t : Int} (h : Srv w wr n l fv tv H) (ht : t = servT (after (zeros n) l) x) (h' : w'.ownsRow w.heap.size 3 1 v' ((run (zeros n) l).length + 1) (ints (run (zeros n) l) ++ [.int .i64 t])) (hg : wr.grownBy w' tv.ownBlock) (hat : v'.ownBlock = tv.ownBlock ∨ v'.ownBlock = some wr.heap.size) :
    Own w' w.heap.size fv H ∧ Own w' w.heap.size v' (run (zeros n) (l ++ [x])) ∧ FarV fv v' ∧ Below w.heap.size w w' := by
  obtain ⟨h1, h2, h3, h4, h5, h6⟩ := h
  refine ⟨row_kept h3.out hg (fun k hk e => h5 k hk e), ?_, farV_step h5 hat (fun k hk => (h3.out.lt k hk).2), h6.grown hg h6.size (fun k hk => (h4.out.lt k hk).1)⟩
  unfold Own
  rw [run_app, List.length_append, ints_app]
  subst ht
  exact h'

set_option maxHeartbeats 4000000 in
theorem iServeTimes_any (A : Option Addr) (c : Nat) (l : List Wi) (m : Int) (w : World) (h : Sees w w.heap.size A (strip wcells l)) (hn : l.length ≤ 4194304) :
    Calls Try.prog 15 #[.slice A l.length c, .int .i64 m] w fun e w' => ∃ v, e = .returned v ∧ Own w' w.heap.size v (serveL l m) ∧ Below w.heap.size w w' := by
  obtain ⟨i0, hi0, hz0, hz1, hz2⟩ := info_parts intInfo
  have HN := hid hn; clear hn
  rcases hv : serveB l m with _ | _
  · have E := hid (show serveL l m = [] by unfold serveL; rw [if_neg (by simp [hv])])
    have HV := hid hv
    clear hv
    go_enter Try.func15, Try.ntmps15
    go_wp2_with fail
    refine (validService_any A c l m _ h HN.out).mono ?_
    rintro e w1 ⟨he, hb1⟩
    rw [HV.out] at he
    subst he
    go_wp2
    go_ret
    exact ⟨_, rfl, by rw [E.out]; exact Own.none_ _ _, hb1⟩
  · obtain ⟨hw, hm1, hm6⟩ : wishB l = true ∧ 1 ≤ m ∧ m ≤ 6 := by unfold serveB at hv; simpa using hv
    obtain ⟨n, rfl⟩ : ∃ n : Nat, m = n := ⟨m.toNat, by omega⟩
    have E := hid (show serveL l (n : Int) = run (zeros n) l by unfold serveL; rw [if_pos hv]; rfl)
    have HV := hid hv
    have HW := hid hw
    have hn0 : 0 < n := by omega
    have hn6 : n ≤ 6 := by omega
    clear hv hw hm1 hm6
    go_enter Try.func15, Try.ntmps15
    go_wp2_with fail
    refine (validService_any A c l n _ h HN.out).mono ?_
    rintro e w1 ⟨he, hb1⟩
    rw [HV.out] at he
    subst he
    go_wp2_with (refine wpList_make_full _ rfl _ _ 29 rfl w1.heap.size 3 i0 (.int .i64 0) 1 Try.underlying29 hi0 hz0 hz1 .i64 .i64 n n n rfl rfl rfl rfl (by rw [hz2]; omega) (by unfold maxLen; omega) (Nat.le_refl _) ?_)
    case _ =>
      intro w2 h2 hg2
      have ho2 : Own w2 w.heap.size (.slice (some ⟨w1.heap.size, 0, none⟩) n n) (List.replicate n 0) := by
        refine Own.mono (base := w1.heap.size) ?_ hb1.size
        unfold Own; rw [List.length_replicate, ← made_ints]; exact h2
      have hb2 : Below w.heap.size w w2 := hb1.grown hg2 hb1.size (fun k hk => by cases hk)
      have s0 : Srv w w2 n (l.take 0) (.slice (some ⟨w1.heap.size, 0, none⟩) n n) (.slice none 0 0) (List.replicate n 0) := ⟨zeros_heap n, List.Perm.refl _, ho2, Own.none_ _ _, fun k _ h => (by cases h), hb2⟩
      have S0 := hid s0
      clear h2 hg2 ho2 hb2 s0 hb1
      go_wp2
      go_loopw [5, 6, 18] (fun fv tv i wr => ∃ (k : Nat) (H : List Int), k ≤ l.length ∧ i = .int .i64 k ∧ Hid (Srv w wr n (l.take k) fv tv H)) (fun _ _ i _ => l.length - (intOf i).toNat)
      case atStart => exact ⟨0, _, Nat.zero_le _, rfl, S0⟩
      case round =>
        clear S0
        obtain ⟨k, H, hk, rfl, HS⟩ := hrel
        have hb := HS.out.below
        have hz := hb.size
        have hn := HN.out
        by_cases hlt : k < l.length
        · have hi : (k : Int) < (l.length : Int) := by omega
          obtain ⟨b, o, rfl, hbl, e0, e1, e2⟩ := (h.below hb).wish hlt
          have hbw : b < wr.heap.size := by omega
          have hst := state_in HW.out hn0 k
          have hne : after (zeros n) (l.take k) ≠ [] := after_ne (zeros_ne hn0)
          have hlen : H.length = n := by rw [HS.out.perm.length_eq, after_len (zeros_ne hn0)]; simp [zeros]
          have hok := ok_of hlt HW.out
          have HRS := hid (run_succ (f := zeros n) hlt)
          have HAS := hid (after_succ (f := zeros n) hlt)
          have HTS := hid (List.take_succ_eq_append_getElem hlt)
          obtain ⟨x, hx⟩ : ∃ x, x = l[k] := ⟨_, rfl⟩
          rw [← hx] at e0 e1 e2 hok HRS HAS HTS
          clear hx
          have hH0 := heap_head HS.out.heap HS.out.perm hst.1 hne
          have hsb := soon_bd hok hst hne
          have HST := hid hst
          have HNE := hid hne
          obtain ⟨F, hF⟩ : ∃ F, F = after (zeros n) (l.take k) := ⟨_, rfl⟩
          have HF := hid hF.symm
          rw [← hF] at hH0 hsb HRS HAS HST HNE
          obtain ⟨gf, cf, hfv, _⟩ := own_row HS.out.free (by omega)
          rw [hlen] at hfv
          subst hfv
          have ef := row_int (show wr.ownsRow w.heap.size 3 1 (.slice (some ⟨gf, 0, none⟩) n cf) n (ints H) from by have hh := HS.out.free.out; rw [hlen] at hh; exact hh) (show 0 < H.length by omega)
          rw [← at_get (show 0 < H.length by omega), hH0] at ef
          obtain ⟨_, hgw⟩ := row_base (show wr.ownsRow w.heap.size 3 1 (.slice (some ⟨gf, 0, none⟩) n cf) n (ints H) from by have hh := HS.out.free.out; rw [hlen] at hh; exact hh)
          obtain ⟨S, hS⟩ : ∃ S, S = soon F x := ⟨_, rfl⟩
          have HSM := hid (show max x.a (F.headD 0) = S from hS.symm)
          have HSO := hid hS.symm
          rw [← hS] at hsb
          obtain ⟨hsb0, hsb1, hsb2⟩ := hsb
          obtain ⟨ok1, ok2, ok3, ok4, ok5, ok6⟩ := Wi.ok_iff.1 hok
          obtain ⟨hd, hhd⟩ : ∃ hd, hd = F.headD 0 := ⟨_, rfl⟩
          rw [← hhd] at ef HSM
          have HOK := hid hok
          clear hst hne hF hH0 hS hhd hok
          have hw1 : IntKind.i64.wrap (x.a + x.p) = x.a + x.p := by rw [IntKind.wrap_i64]; omega
          have hw2 : IntKind.i64.wrap (S + x.h) = S + x.h := by rw [IntKind.wrap_i64]; omega
          have px := (At.new wr 40 #[.int .i64 x.a, .int .i64 x.h, .int .i64 x.p])
          obtain ⟨p0, p1, p2⟩ := (show _ ∧ _ ∧ _ from ⟨px.cell 0, px.cell 1, px.cell 2⟩)
          have hrl : (run (zeros n) (l.take k)).length ≤ 4194304 := by rw [run_len, List.length_take]; omega
          have hlpos : (0 : Int) < (n : Int) := by omega
          have HLEN := hid hlen
          clear hlen
          by_cases hgt : S > x.a + x.p
          · have HT : Hid (servT F x = -1) := hid (by unfold servT okAt; rw [show soon F x = S from HSO.out]; rw [if_neg (by simp; omega)])
            have HFF : Hid (servF F x = F) := hid (by unfold servF okAt; rw [show soon F x = S from HSO.out]; rw [if_neg (by simp; omega)])
            go_wp2
            go_quiet ((go_at_call 34; exact Calls.quiet_of_same ((greaterOf_any _ _ _).mono fun _ _ ⟨he, hw⟩ => ⟨by rw [he, HSM.out], hw.symm⟩)))
            have HSq := hid (((HS.out.alloc (.cells #[.int .i64 x.a, .int .i64 x.h, .int .i64 x.p] 40)).drewN nq))
            go_wp2_with (at_builtin; refine wpList_append_own_at _ rfl _ _ 29 rfl w.heap.size 3 i0 (.int .i64 0) 1 8 Try.underlying29 hi0 hz0 hz1 hz2 rfl (by decide) _ _ _ rfl (HSq.out.times.alloc5 _).out ⟨wr.heap.size + 1, 0, none⟩ 1 1 [.int .i64 (-1)] rfl rfl (by simpa using cell_one_new ((wr.alloc (.cells #[.int .i64 x.a, .int .i64 x.h, .int .i64 x.p] 40)).drewN nq) (.int .i64 (-1)) 3) ?c2 ?c3 ?c4 ?c5 ?_)
            case c2 => simp [Value.oneCell']
            case c3 => unfold maxLen; omega
            case c4 => omega
            case c5 => simp; omega
            case _ =>
              intro v1 w3 h1 hg1 _ hat
              obtain ⟨a1, a2, a3, a4⟩ := (HSq.out.alloc (.cells #[.int .i64 (-1)] 3)).add (x := x) (by rw [HF.out, HT.out]) h1 hg1 (by simpa using hat)
              have HS3 := hid (show Srv w w3 n (l.take (k + 1)) _ _ H from ⟨HS.out.heap, by rw [HAS.out, HFF.out, ← HF.out]; exact HS.out.perm, a1, by rw [HTS.out]; exact a2, a3, a4⟩)
              clear h1 hg1 hat a1 a2 a3 a4 HSq
              go_wp2
              go_roundw
              case rel => exact ⟨k + 1, H, by omega, by go_num, HS3⟩
              case measure => simp [intOf]; omega
          · have HT : Hid (servT F x = S) := hid (by unfold servT okAt; rw [show soon F x = S from HSO.out]; rw [if_pos (by simp; omega)])
            have HFF : Hid (servF F x = ins (S + x.h) F.tail) := hid (by unfold servF okAt; rw [show soon F x = S from HSO.out]; rw [if_pos (by simp; omega)])
            go_wp2
            go_quiet ((go_at_call 34; exact Calls.quiet_of_same ((greaterOf_any _ _ _).mono fun _ _ ⟨he, hw⟩ => ⟨by rw [he, HSM.out], hw.symm⟩)))
            have HSq := hid (((HS.out.alloc (.cells #[.int .i64 x.a, .int .i64 x.h, .int .i64 x.p] 40)).drewN nq))
            have pq := px.drewN nq
            go_wp2_with (at_builtin; refine wpList_append_own_at _ rfl _ _ 29 rfl w.heap.size 3 i0 (.int .i64 0) 1 8 Try.underlying29 hi0 hz0 hz1 hz2 rfl (by decide) _ _ _ rfl (HSq.out.times.alloc5 _).out ⟨wr.heap.size + 1, 0, none⟩ 1 1 [.int .i64 S] rfl rfl (by simpa using cell_one_new ((wr.alloc (.cells #[.int .i64 x.a, .int .i64 x.h, .int .i64 x.p] 40)).drewN nq) (.int .i64 S) 3) ?d2 ?d3 ?d4 ?d5 ?_)
            case d2 => simp [Value.oneCell']
            case d3 => unfold maxLen; omega
            case d4 => omega
            case d5 => simp; omega
            case _ =>
              intro v1 w3 h1 hg1 _ hat
              have hpx3 := (pq.alloc (.cells #[.int .i64 S] 3)).grown hg1 (fun e => by
                have := HSq.out.times.out.lt _ e.symm
                have hf := HS.out.times.out.lt _ e.symm
                omega)
              obtain ⟨a1, a2, a3, a4⟩ := (HSq.out.alloc (.cells #[.int .i64 S] 3)).add (x := x) (by rw [HF.out, HT.out]) h1 hg1 (by simpa using hat)
              rw [← HTS.out] at a2
              have ht3 := fun k hk => (a2.out.lt k hk).2
              have HHH := hid HS.out.heap
              have HPP := hid HS.out.perm
              clear h1 hg1 hat HSq p0 p1 p2 px pq
              obtain ⟨p0, p1, p2⟩ := (show _ ∧ _ ∧ _ from ⟨hpx3.cell 0, hpx3.cell 1, hpx3.cell 2⟩)
              go_wp2_with fail
              refine (replaceLeast_at HLEN.out (by have hh := a1.out; rw [HLEN.out] at hh; exact Sees.of_own hh) HHH.out hn0 (by omega)).mono ?_
              rintro e w4 ⟨v4, R, rfl, ho4, hp4, hq4, hl4, hb4⟩
              have HS4 := hid (show Srv w w4 n (l.take (k + 1)) v4 v1 R from ⟨hp4, by rw [HAS.out, HFF.out]; rw [HF.out] at HPP; exact least_perm HPP.out (heap_head HHH.out HPP.out HST.out.1 HNE.out) HNE.out hq4, ho4.mono a4.size, a2.below hb4, fun q r1 r2 => by have := (ho4.out.lt q r1).1; have := ht3 q r2; omega, a4.trans (hb4.mono a4.size)⟩)
              clear a1 a2 a3 a4 ho4 hp4 hq4 hl4 hb4 hpx3 p0 p1 p2
              go_wp2
              go_roundw
              case rel => exact ⟨k + 1, R, by omega, by go_num, HS4⟩
              case measure => simp [intOf]; omega
        · have hi : ¬ (k : Int) < (l.length : Int) := by omega
          have ht := HS.out.times
          rw [take_whole hlt] at ht
          go_wp2
          go_ret
          exact ⟨_, rfl, by rw [E.out]; exact ht, hb⟩

end Go.Proofs.Ytolcnokmdohbaaa
