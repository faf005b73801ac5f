/-
  The walk of the law FnRouteReadDown: at every code it returns true and changes nothing that was there. Conditions: none.
-/
import Derived.Test.YtbgpdpmijlhkkabLawHo
import Derived.Test.YtbgpdpmijlhkkabLawFrame
import Derived.BigQuiet
import Derived.Deep.RegionHeldLaw
namespace Go.Proofs.Ytbgpdpmijlhkkab
open Go.RowKit Hos

set_option maxHeartbeats 8000000 in
set_option maxRecDepth 16384 in
theorem walkRouteReadDown (a : Option Addr) (len cap : Nat) (zs : List Int) (w : World) (hn : zs.length = len) (hc : len ≤ cap) (hcc : cap ≤ maxLen) (h : Sees w w.heap.size a (byts zs)) (hz : ∀ y ∈ zs, 0 ≤ y ∧ y ≤ 255) :
    Calls Try.prog 4 #[.slice a len cap] w fun e w' => e = .returned (.bool true) ∧ Below w.heap.size w w' := by
  have HE := hid hn
  have HC := hid hcc
  have HZ := hid hz
  clear hn hcc hz
  by_cases hbig : 1048576 < len
  · go_enter Try.func4, Try.ntmps4
    go_wp2
    go_ret
    exact ⟨rfl, Below.refl _ _⟩
  · go_enter Try.func4, Try.ntmps4
    go_wp2_with fail
    refine (drawRouteRead_any _ _ _ _ _ h HZ.out HE.out hc (by omega) HC.out).mono ?_
    rintro e w1 ⟨A, c, l, m, rfl, dl, hm0, hm1⟩
    have hl6 := dl.len
    obtain ⟨i0, hi0, hz0, hz1, hz2⟩ := info_parts hostInfo
    obtain ⟨V, hV⟩ : ∃ V, V = routeH l m := ⟨_, rfl⟩
    have E : Hid (routeH l m = V) := hid hV.symm
    clear hV
    go_wp2_with fail
    refine (iRouteRead_any A c l m _ dl.sees dl.n6).mono ?_
    rintro e w2 ⟨he, hb⟩
    rw [E.out] at he
    subst he
    replace dl := dl.below hb
    clear hb
    go_wp2_with fail
    refine (sRouteRead_any A c l m _ dl.sees dl.n6).mono ?_
    rintro e w2 ⟨he, hb⟩
    rw [E.out] at he
    subst he
    replace dl := dl.below hb
    clear hb
    have HX1 := hid (downs_route l m)
    have HX2 := hid (downs_write l)
    obtain ⟨w3, hw3⟩ : ∃ w3 : World, w3 = w2 := ⟨_, rfl⟩
    subst hw3
    have ho0 : OwnS 28 3 hcl (w3.alloc (.cells #[] 28)) w3.heap.size (.slice (some ⟨w3.heap.size, 0, none⟩) 0 0) [] := OwnS.made w3 (Nat.le_refl _)
    have hb0 := (Below.refl w3.heap.size w3).alloc (Nat.le_refl _) (.cells #[] 28)
    go_wp2
    go_loopw [6, 7] (fun v i wr => ∃ k : Nat, k ≤ l.length ∧ i = .int .i64 k ∧ OwnS 28 3 hcl wr w3.heap.size v (downs (l.take k)) ∧ Below w3.heap.size w3 wr) (fun _ i _ => l.length - (intOf i).toNat)
    case atStart => exact ⟨0, Nat.zero_le _, rfl, ho0, hb0⟩
    case round =>
      clear ho0 hb0
      obtain ⟨k, hk, rfl, ho, hb⟩ := hrel
      have hdl := dl.below hb
      by_cases hlt : k < l.length
      · skip
        have hi : (k : Int) < (l.length : Int) := by omega
        obtain ⟨b, o, rfl, hbl, e0, e1, _⟩ := (dl.sees.below hb).host hlt
        have HT := hid (downs_succ hlt)
        have HKL : Hid ((downs (l.take k)).length = k) := hid (by rw [downs_len, List.length_take]; omega)
        obtain ⟨x, hx⟩ : ∃ x, x = l[k] := ⟨_, rfl⟩
        rw [← hx] at e0 e1 HT
        clear hx
        have hz := hb.size
        have hown := hid (show wr.drew.ownsRow w3.heap.size 28 3 _ k (strip hcl (downs (l.take k))) by have h1 := ho.out; rw [HKL.out] at h1; exact h1)
        clear ho
        go_wp2_with fail
        go_region_held_law (fun w' => w'.cell? ⟨b, o + k * 3, none⟩ = some (.int .i64 x.l) ∧ w'.cell? ⟨b, o + k * 3 + 1, none⟩ = some (.int .i64 x.g))
          (first | with_reducible exact ⟨e0, e1⟩ | with_reducible exact ⟨p0, p1⟩ | go_keep)
          (first
          | (refine step_append_own _ (by rfl) _ _ 23 (by rfl) w3.heap.size 28 i0 (.agg #[.int .i64 0, .int .i64 0, .bool false]) 3 24 Try.underlying23 hi0 hz0 hz1 hz2 rfl (by decide) _ k (strip hcl (downs (l.take k))) (by rfl) (own_alloc hown.out _) ⟨wr.heap.size, 0, none⟩ 1 1 [.int .i64 x.l, .int .i64 x.g, .bool true] (by rfl) (by rfl) (by first | exact cells_new wr.drew _ _ | exact (At.newAt 28 _ rfl).drew.news) (by simp [Value.oneCell']) (by unfold maxLen; omega) (by omega) (by simp; omega) ?_; intro v2 w4 h2 hg2; have hbx : Below w3.heap.size wr w4 := ((Below.refl _ _).drew.alloc (by simpa using hz) _).grown hg2 (by simp; omega) (fun q hq => (hown.out.lt q hq).1); have p0 := ((below_cell hbx).1 b (o + k * 3) hbl).trans e0; have p1 := ((below_cell hbx).1 b (o + k * 3 + 1) hbl).trans e1)
          | fail)
        all_goals
          have ho2 : OwnS 28 3 hcl w4 w3.heap.size v2 (downs (l.take (k + 1))) := by
            rw [HT.out]
            unfold OwnS
            rw [List.length_append, HKL.out, strip_snoc]
            exact h2
          have hb2 : Below w3.heap.size w3 w4 := hb.trans hbx
          clear h2 hg2 hbx p0 p1
          go_wp2
          go_roundw
          case rel => exact ⟨k + 1, by omega, by go_num, ho2, hb2⟩
          case measure => simp [intOf]; omega
      · skip
        have hi : ¬ (k : Int) < (l.length : Int) := by omega
        rw [take_whole hlt] at ho
        obtain ⟨A4, c4, rfl, hc4, _, hs4⟩ := ho.form
        have hl4 := hid (downs_len l)
        go_wp2_with fail
        refine (iRouteRead_any _ _ (downs l) m _ hs4 (by rw [hl4.out]; omega)).mono ?_
        rintro e w5 ⟨he, hb5⟩
        rw [HX1.out] at he
        subst he
        replace hdl := hdl.below hb5
        have hs5 := (hs4.below hb5).more hb5.size
        go_wp2_with fail
        refine (iRouteWrite_any _ _ (downs l) _ hs5 (by rw [hl4.out]; omega)).mono ?_
        rintro e w6 ⟨he, hb6⟩
        rw [HX2.out] at he
        subst he
        replace hdl := hdl.below hb6
        go_wp2
        go_ret
        exact ⟨rfl, hdl.bel⟩
end Go.Proofs.Ytbgpdpmijlhkkab
