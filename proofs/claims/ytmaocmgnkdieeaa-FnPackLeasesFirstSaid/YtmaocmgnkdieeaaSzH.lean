/-
  What the program's PackLeases answers. Condition: the list lies in memory.
-/
import Derived.Test.YtmaocmgnkdieeaaSzD
import Derived.Test.YtmaocmgnkdieeaaPackMath
import Derived.Test.YtmaocmgnkdieeaaSsLease
namespace Go.Proofs.Ytmaocmgnkdieeaa
open Go.RowKit Lse

/-- What packing gives in the order K. -/
def packL (l : List L) (K : List Nat) : List L := if validB l = true then (packs l K).1 else []
theorem set_same {xs : List Value} {i : Nat} {v : Value} (h : xs[i]? = some v) : xs.set i v = xs := by
  obtain ⟨hi, e⟩ := List.getElem?_eq_some_iff.1 h
  rw [← e]; exact List.set_getElem_self hi
theorem leasePut {O : List L} {p : Nat} (hp : p < O.length) (c : Int) : (strip lcells O).set (p * 4) (.int .i64 c) = strip lcells (O.set p (put O[p] c)) := by
  rw [strip_set lcells_len O p hp]
  have hb : ∀ j, 0 < j → j < 4 → ((strip lcells O).set (p * 4) (.int .i64 c))[p * 4 + j]? = (lcells O[p])[j]? := fun j h0 hj => by
    rw [List.getElem?_set_ne (by omega), strip_at lcells_len hp hj]
  have b1 := hb 1 (by decide) (by decide)
  have b2 := hb 2 (by decide) (by decide)
  have b3 := hb 3 (by decide) (by decide)
  obtain ⟨X, hX⟩ : ∃ X, X = (strip lcells O).set (p * 4) (.int .i64 c) := ⟨_, rfl⟩
  rw [← hX] at b1 b2 b3
  show _ = (((((strip lcells O).set (p * 4) (.int .i64 c)).set (p * 4 + 1) (.int .i64 O[p].o)).set (p * 4 + 1 + 1) (.int .i64 O[p].f)).set (p * 4 + 1 + 1 + 1) (.int .i64 O[p].u))
  rw [← hX, set_same (v := .int .i64 O[p].o) b1, set_same (v := .int .i64 O[p].f) b2, set_same (v := .int .i64 O[p].u) b3]
theorem own_blockL {w : World} {base n c : Nat} {A : Option Addr} {l : List L} (h : w.ownsRow base 30 4 (.slice A n c) n (strip lcells l)) (hn : 0 < n) : ∃ g, A = some ⟨g, 0, none⟩ := by
  rcases h.2 with ⟨_, e⟩ | ⟨g, cap, cur, e, _⟩
  · omega
  · injection e with e1 e2 e3; exact ⟨g, e1⟩
set_option maxHeartbeats 700000 in
theorem iPackLeases_any (A : Option Addr) (c : Nat) (l : List L) (w : World) (h : Sees w w.heap.size A (lvals l)) (hc : l.length ≤ c) (hn : l.length ≤ 4194304) :
    Calls Try.prog 7 #[.slice A l.length c] w fun e w' => ∃ v, e = .returned (.tuple #[v, .bool (validB l)]) ∧ (∀ K, Ord l l.length K → OwnL w' w.heap.size v (packL l K)) ∧ Below w.heap.size w w' := by
  obtain ⟨i0, hi0, hz0, hz1, hz2⟩ := info_parts leaseInfo
  have HN := hid hn; clear hn
  rcases hv : validB l with _ | _
  · have E : Hid (∀ K, packL l K = []) := hid (fun K => by unfold packL; rw [if_neg (by simp [hv])])
    have HV := hid hv
    clear hv
    go_enter Try.func7, Try.ntmps7
    go_wp2_with fail
    refine (iValidLeases_any A c l _ h hc HN.out).mono ?_
    rintro e w1 ⟨he, hb1⟩
    rw [HV.out] at he
    subst he
    go_wp2
    go_ret2
    exact ⟨_, rfl, fun K _ => by rw [E.out]; exact OwnS.none_ _ _, hb1⟩
  · have HL := hid (valid_len hv)
    have HV := hid hv
    have HQ : Hid (∀ K, packL l K = (packs l K).1) := hid (fun K => by unfold packL; rw [if_pos hv])
    clear hv
    go_enter Try.func7, Try.ntmps7
    go_wp2_with fail
    refine (iValidLeases_any A c l _ h hc HN.out).mono ?_
    rintro e w1 ⟨he, hb1⟩
    rw [HV.out] at he
    subst he
    go_wp2_with fail
    refine (copyLeases_any A c l _ ((h.below hb1).more hb1.size) HN.out).mono ?_
    rintro e w2 ⟨v2, rfl, ho2, hb2⟩
    have hb12 := hb1.trans (hb2.mono hb1.size)
    go_wp2_with fail
    refine (placesByFrom_any A c l _ ((h.below hb12).more hb12.size) HL.out).mono ?_
    rintro e w3 ⟨v3, K, rfl, ho3, hK, hb3⟩
    have hb13 := hb12.trans (hb3.mono hb12.size)
    have HG : Hid (∀ k, v2.ownBlock = some k → w.heap.size ≤ k ∧ k < w2.heap.size) := hid (fun k hk => by have := ho2.lt k hk; have := hb1.size; omega)
    have HG3 : Hid (∀ k, v3.ownBlock = some k → k < w3.heap.size) := hid (fun k hk => (ho3.out.lt k hk).2)
    obtain ⟨A4, c4, rfl, _, _, _⟩ := ho2.form
    have hnl : (nums K).length = l.length := by rw [nums_len]; exact hK.1
    obtain ⟨A1, c1, rfl, _⟩ := ho3.form
    have hO0 : w3.ownsRow w.heap.size 30 4 (.slice A4 l.length c4) l.length (strip lcells l) := own_mono (own_below ho2.out hb3) hb1.size
    have hP0 : w3.ownsRow w2.heap.size 3 1 (.slice A1 l.length c1) l.length (ints (nums K)) := by have := ho3.out; rw [hnl] at this; exact this
    rw [hnl] at HG3
    rw [hnl]
    have HZ := hid (show w2.heap.size ≤ w3.heap.size from hb3.size)
    have HK := hid hK
    clear hK ho2 ho3 hnl hb1 hb2 hb3 hb12
    go_wp2
    go_loopw [5, 17] (fun v i wr => ∃ (k : Nat) (O D : List L), i = .int .i64 k ∧ Hid ((O, D) = packs l (K.take k)) ∧ Hid (k ≤ l.length) ∧ Hid (Pak l K k O D) ∧ OwnL wr w3.heap.size v D ∧ wr.ownsRow w.heap.size 30 4 (.slice A4 l.length c4) l.length (strip lcells O) ∧ wr.ownsRow w2.heap.size 3 1 (.slice A1 l.length c1) l.length (ints (nums K)) ∧ Below w.heap.size w wr ∧ Hid (w3.heap.size ≤ wr.heap.size)) (fun _ i _ => l.length - (intOf i).toNat)
    case atStart => exact ⟨0, l, [], rfl, hid (by simp [packs]), hid (Nat.zero_le _), hid (pak_zero l K), OwnS.none_ _ _, hO0, hP0, hb13, hid (Nat.le_refl _)⟩
    case round =>
      clear hO0 hP0 hb13
      obtain ⟨k, O, D, rfl, HOD, HKL, HPK, hD, hO, hP, hb, HW3⟩ := hrel
      have hn12 := HL.out
      by_cases hlt : k < l.length
      · have hi : (k : Int) < (l.length : Int) := by omega
        have hk0 : (0 : Int) ≤ (k : Int) := by omega
        have hkK : k < K.length := by rw [HK.out.1]; exact hlt
        have hpl : ats K k < l.length := HK.out.lt hlt
        obtain ⟨cn, cn6, cl, _, _⟩ := free_some HV.out HK.out HPK.out hlt
        have hnx := pak_step HV.out HK.out HPK.out hlt
        have hox : pk1 l (O, D) (ats K k) = packs l (K.take (k + 1)) := by rw [ats_take hkK, packs_snoc, HOD.out]
        have hsm := HPK.out.same _ hpl
        have hDl : D.length = k := by rw [HPK.out.done]; unfold leasesAt; rw [List.length_map, List.length_take]; omega
        have hvD : validB D = true := validB_iff.2 ⟨by omega, HPK.out.fine⟩
        have hok := L.ok_iff.1 (ok_of hpl HV.out)
        rw [← at0_at hpl] at hok
        have hff : freeFor D 6 (at0 l (ats K k)).f (at0 l (ats K k)).u = (cn : Int) := by
          rw [ff_yes hvD (by decide) (by unfold timesB; exact decide_eq_true (by omega))]; exact cl
        unfold pk1 at hox hnx
        simp only [] at hox hnx
        rw [cl] at hox hnx
        obtain ⟨gp, rfl⟩ : ∃ g, A1 = some ⟨g, 0, none⟩ := by
          rcases hP.2 with ⟨_, e⟩ | ⟨g, cap, cur, e, _⟩
          · omega
          · injection e with e1 e2 e3; exact ⟨g, e1⟩
        have ek := row_num hP hkK
        obtain ⟨g, rfl⟩ := own_blockL hO (by omega)
        obtain ⟨hg0, hg2⟩ := HG.out g rfl
        have hg3 := HG3.out gp rfl
        obtain ⟨b, o, rfl, hbl, e0, e1, e2, e3⟩ := (h.below hb).lease hpl
        rw [← at0_at hpl] at e0 e1 e2 e3
        obtain ⟨p, hp⟩ : ∃ p, p = ats K k := ⟨_, rfl⟩
        rw [← hp] at ek e0 e1 e2 e3 hpl hox hnx hsm hok hff
        have hOl : O.length = l.length := HPK.out.len
        have hpO : p < O.length := by omega
        have hyy : put O[p] cn = put (at0 l p) cn := by
          rw [at0_at hpO] at hsm
          unfold put; rw [hsm.1, hsm.2.1, hsm.2.2]
        obtain ⟨x, hx⟩ : ∃ x, x = at0 l p := ⟨_, rfl⟩
        rw [← hx] at e0 e1 e2 e3 hox hnx hff hyy
        obtain ⟨y, hy⟩ : ∃ y, y = put x cn := ⟨_, rfl⟩
        rw [← hy] at hox hnx hyy
        have hyc : y.c = cn := by rw [hy]; rfl
        clear hp hx hsm hok cl hvD hy
        have HOX := hid hox.symm
        have HNX := hid hnx
        have HFF := hid hff
        have HDL := hid hDl
        clear hox hnx hff
        have hz := hb.size
        have hbw : b < wr.heap.size := by omega
        have hw3 := HW3.out
        have hz23 := HZ.out
        have hgw : g < wr.heap.size := by omega
        have hp0 : (0 : Int) ≤ (p : Int) := by omega
        have hpi : (p : Int) < (l.length : Int) := by omega
        obtain ⟨A5, c5, rfl, hc5, _, hs5'⟩ := hD.form
        have hs5 : Sees wr wr.heap.size A5 (lvals D) := hs5'
        clear hs5'
        have HO := hid hO
        have HP := hid hP
        have HD := hid hD
        have HOL := hid hOl
        have HYY := hid hyy
        have HYC := hid hyc
        have hD12 : D.length ≤ 12 := by omega
        clear hO hP hD hOl hyy hyc hDl hg0 hg2 hg3 hz23 hw3
        go_wp2_with fail
        refine (iFreeFor_any A5 c5 D 6 x.f x.u _ ((hs5.alloc (Nat.le_refl _) _).more (by simp)) hc5 (by omega)).mono ?_
        rintro e w4 ⟨rfl, hb4⟩
        have hO := HO.out
        have hP := HP.out
        have hD := HD.out
        have hyy := HYY.out
        obtain ⟨hg0, hg2⟩ := HG.out g rfl
        have hw3 := HW3.out
        have hz23 := HZ.out
        rw [HFF.out]
        have hbA : Below wr.heap.size wr w4 := ((Below.refl _ _).alloc (Nat.le_refl _) _).trans (hb4.mono (by simp))
        clear hb4
        have hO4 := own_below hO hbA
        have hfr4 := row_thaw hO4
        obtain ⟨z, z0, z1, z2, z3⟩ : ∃ z : Int, w4.cell? ⟨g, p * 4, none⟩ = some (.int .i64 z) ∧ w4.cell? ⟨g, p * 4 + 1, none⟩ = some (.int .i64 y.o) ∧ w4.cell? ⟨g, p * 4 + 2, none⟩ = some (.int .i64 y.f) ∧ w4.cell? ⟨g, p * 4 + 3, none⟩ = some (.int .i64 y.u) := by
          obtain ⟨b', o', he, _, f0, f1, f2, f3⟩ := (show Sees _ _ _ (lvals O) from Sees.of_own hO4).lease (k := p) hpO
          injection he with he
          injection he with he1 he2
          subst he1 he2
          rw [Nat.zero_add] at f0 f1 f2 f3
          rw [← hyy]
          exact ⟨_, f0, f1, f2, f3⟩
        have hO5 := row_put hO4 (p * 4) (.int .i64 cn)
        rw [leasePut hpO, hyy] at hO5
        have hD5 := ownsRow_setCell_below (a := ⟨g, p * 4, none⟩) (own_below hD.out hbA) (show g < w3.heap.size by omega) (.int .i64 cn)
        have hP5 := ownsRow_setCell_below (a := ⟨g, p * 4, none⟩) (own_below hP hbA) hg2 (.int .i64 cn)
        have hb5 := (hb.trans (hbA.mono hz)).setCell (p := ⟨g, p * 4, none⟩) hg0 (.int .i64 cn)
        have hs4 := hbA.size
        obtain ⟨w5, hw5⟩ : ∃ w5, w5 = w4.setCell ⟨g, p * 4, none⟩ (.int .i64 cn) := ⟨_, rfl⟩
        have HW5 := hid hw5
        rw [← hw5] at hO5 hD5 hP5 hb5
        have hs5e : w5.heap.size = w4.heap.size := by rw [hw5]; simp
        clear hw5
        go_wp2_with (at_builtin; rw [← HW5.out]; refine wpList_append_own _ rfl _ _ 23 rfl w3.heap.size 30 i0 (.agg #[.int .i64 0, .int .i64 0, .int .i64 0, .int .i64 0]) 4 32 Try.underlying23 hi0 hz0 hz1 hz2 rfl (by decide) _ _ _ rfl (own_alloc hD5 _) ⟨w4.heap.size, 0, none⟩ 1 1 [.int .i64 (cn : Int), .int .i64 y.o, .int .i64 y.f, .int .i64 y.u] rfl rfl (by have := cells_new w5 [.int .i64 (cn : Int), .int .i64 y.o, .int .i64 y.f, .int .i64 y.u] 30; rw [hs5e] at this; simpa using this) ?c2 ?c3 ?c4 ?c5 ?_)
        case c2 => simp [Value.oneCell']
        case c3 => unfold maxLen; omega
        case c4 => omega
        case c5 => simp; omega
        case _ =>
          intro v6 w6 h6 hg6 _
          have h6' : w6.ownsRow w3.heap.size 30 4 v6 (D.length + 1) (strip lcells D ++ lcells y) := by unfold lcells; rw [HYC.out]; exact h6
          obtain ⟨ho6, hb6⟩ := OwnS.snoc (x := y) (W := w5) hD5 (Below.refl _ _) (by rw [hs5e]; omega) h6' hg6
          have hne : ∀ q, (Value.slice A5 D.length c5).ownBlock = some q → w3.heap.size ≤ q := fun q hq => (World.ownsRow.lt hD5 q hq).1
          have hO6 : w6.ownsRow w.heap.size 30 4 (.slice (some ⟨g, 0, none⟩) l.length c4) l.length (strip lcells (O.set p y)) := row_kept (own_alloc hO5 _) hg6 (fun q hq e => by have h1 := hne q e; have hq' : g = q := Option.some.inj hq; omega)
          have hP6 : w6.ownsRow w2.heap.size 3 1 (.slice (some ⟨gp, 0, none⟩) l.length c1) l.length (ints (nums K)) := row_kept (own_alloc hP5 _) hg6 (fun q hq e => by have h1 := hne q e; have hq' : gp = q := Option.some.inj hq; have := HG3.out gp rfl; omega)
          have hbn := hb5.trans (hb6.mono (by omega))
          have hsz6 := hb6.size
          clear h6 h6' hg6 hO5 hP5 hD5 hb5 hO4 z0 z1 z2 z3 hfr4
          have HO6 := hid hO6
          have HP6 := hid hP6
          clear hO6 hP6 hne hO hP hD
          go_wp2
          go_roundw
          case rel => exact ⟨k + 1, O.set p y, D ++ [y], by go_num, hid HOX.out.symm, hid (by omega), HNX, ho6, HO6.out, HP6.out, hbn, hid (by omega)⟩
          case measure => simp [intOf]; omega
      · have hi : ¬ (k : Int) < (l.length : Int) := by omega
        have hkk : k = l.length := by have := HKL.out; omega
        have HR : Hid (∀ K', Ord l l.length K' → packL l K' = O) := hid (fun K' h' => by
          have e := ord_one h' HK.out
          have e2 := HOD.out
          rw [hkk, ← HK.out.1, List.take_length] at e2
          rw [HQ.out, e, ← e2])
        have hOl : O.length = l.length := HPK.out.len
        have HOW : Hid (OwnL wr w.heap.size (.slice A4 l.length c4) O) := hid (by show World.ownsRow _ _ _ _ _ _ _; rw [hOl]; exact hO)
        clear hkk hO hOl
        go_wp2
        go_ret2
        exact ⟨_, rfl, fun K' h' => by rw [HR.out K' h']; exact HOW.out, hb⟩

end Go.Proofs.Ytmaocmgnkdieeaa
