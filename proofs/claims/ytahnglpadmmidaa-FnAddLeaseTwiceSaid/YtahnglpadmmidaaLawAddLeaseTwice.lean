/-
  The walk of the law FnAddLeaseTwice: at every code it returns true and changes nothing that was there. Conditions: none.
-/
import Derived.Test.YtahnglpadmmidaaLsDraw
import Derived.Test.YtahnglpadmmidaaLawLs
import Derived.Test.YtahnglpadmmidaaAddMath
import Derived.Test.YtahnglpadmmidaaLsG
import Derived.Test.YtahnglpadmmidaaLawFrame
import Derived.BigQuiet
import Derived.Deep.RegionHeldLaw
namespace Go.Proofs.Ytahnglpadmmidaa
open Go.RowKit Lse

set_option maxHeartbeats 4000000 in
theorem walkAddLeaseTwice (a : Option Addr) (len cap : Nat) (zs : List Int) (w : World) (hn : zs.length = len) (hc : len ≤ cap) (hcc : cap ≤ maxLen) (h : Sees w w.heap.size a (byts zs)) (hz : ∀ y ∈ zs, 0 ≤ y ∧ y ≤ 255) :
    Calls Try.prog 5 #[.slice a len cap] w fun e w' => e = .returned (.bool true) ∧ Below w.heap.size w w' := by
  have HE := hid hn
  have HC := hid hcc
  have HZ := hid hz
  clear hn hcc hz
  by_cases hbig : 1048576 < len
  · go_enter Try.func5, Try.ntmps5
    go_wp2
    go_ret
    exact ⟨rfl, Below.refl _ _⟩
  · go_enter Try.func5, Try.ntmps5
    go_wp2_with fail
    refine (drawAddLease_any _ _ _ _ _ h HZ.out HE.out hc (by omega) HC.out).mono ?_
    rintro e w1 ⟨A, c, l, x, rfl, dl, _, _, _, _⟩
    have px := At.new w1 30 #[.int .i64 x.c, .int .i64 x.o, .int .i64 x.f, .int .i64 x.u]
    replace dl := dl.alloc (.cells #[.int .i64 x.c, .int .i64 x.o, .int .i64 x.f, .int .i64 x.u] 30)
    obtain ⟨K, hK⟩ : ∃ K, K = addB l x := ⟨_, rfl⟩
    have EK : Hid (addB l x = K) := hid hK.symm
    obtain ⟨V, hV⟩ : ∃ V, V = addL l x := ⟨_, rfl⟩
    have EV : Hid (addL l x = V) := hid hV.symm
    have HVn : Hid (V.length ≤ 14) := hid (by rw [hV]; have := addL_len l x; have := dl.2.2.1; omega)
    clear hK hV
    obtain ⟨p0, p1, p2, p3, pl⟩ := px.lease
    go_wp2_with fail
    refine (iAddLease_any A c l x _ dl.sees dl.2.2.2 (Nat.le_trans dl.2.2.1 (by decide))).mono ?_
    rintro e w2 ⟨vw2, he, how2, hb⟩
    rw [EK.out] at he
    subst he
    rw [EV.out] at how2
    replace dl := dl.below hb
    replace px := px.below hb px.lt
    clear hb
    obtain ⟨A2, c2, rfl, hc2, _, _⟩ := how2.form
    have HC2 := hid hc2
    clear hc2 p0 p1 p2 p3 pl
    obtain ⟨p0, p1, p2, p3, pl⟩ := px.lease
    go_wp2_with fail
    refine (sAddLease_any A c l x _ dl.sees  (Nat.le_trans dl.2.2.1 (by decide))).mono ?_
    rintro e w3 ⟨vw3, he, how3, hb⟩
    rw [EK.out] at he
    subst he
    rw [EV.out] at how3
    replace dl := dl.below hb
    replace how2 := how2.below hb
    replace px := px.below hb px.lt
    clear hb
    obtain ⟨A3, c3, rfl, _, _, _⟩ := how3.form
    clear p0 p1 p2 p3 pl
    go_wp2_with fail
    refine (equalLeases_same rfl how2.sees how3.sees (Nat.le_trans HVn.out (by decide))).mono ?_
    rintro e w4 ⟨rfl, hb⟩
    replace dl := dl.below hb
    replace how2 := how2.below hb
    replace how3 := how3.below hb
    replace px := px.below hb px.lt
    clear hb
    rcases K with _ | _
    · go_wp2_with fail
      refine (equalLeases_same rfl how2.sees how3.sees (Nat.le_trans HVn.out (by decide))).mono ?_
      rintro e w5 ⟨rfl, hb⟩
      replace dl := dl.below hb
      go_wp2
      go_ret
      exact ⟨rfl, dl.bel⟩
    · have hVx : V = l ++ [x] := by rw [← EV.out, add_yes EK.out]
      have hkk := EK.out
      simp only [addB, Bool.and_eq_true] at hkk
      have ET := hid (not_twice (l := l ++ [x]) (x := x) (by simp))
      have EK2 : Hid (addB V x = false) := hid (by rw [hVx]; simp only [addB, ET.out, Bool.and_false])
      have E3 : Hid (leased V x.o = time l x.o + (x.u - x.f)) := hid (by rw [hVx]; unfold leased; rw [if_pos hkk.2, time_snoc, if_pos rfl])
      have E4 : Hid (leased l x.o = time l x.o) := hid (by unfold leased; rw [if_pos hkk.1])
      obtain ⟨t1, t2⟩ := time_bounds (validB_iff.1 hkk.1).2.1 x.o
      have hxo := L.ok_iff.1 ((validB_iff.1 hkk.2).2.1 x (by simp))
      obtain ⟨_, _, _, _, g5, g6, g7⟩ := hxo
      have hl13 := dl.2.2.1
      clear hVx how3 hkk ET
      obtain ⟨T, hT⟩ : ∃ T, T = time l x.o := ⟨_, rfl⟩
      rw [← hT] at t1 t2 E3 E4
      clear hT
      obtain ⟨p0, p1, p2, p3, pl⟩ := px.lease
      go_wp2_with fail
      refine (iAddLease_any A2 c2 V x _ how2.sees HC2.out (Nat.le_trans HVn.out (by decide))).mono ?_
      rintro e w5 ⟨v5, he, ho5, hb⟩
      rw [EK2.out] at he
      subst he
      replace dl := dl.below hb
      replace how2 := how2.below hb
      replace px := px.below hb px.lt
      have hs5 := px
      clear hb ho5 p0 p1 p2 p3 pl hs5
      obtain ⟨p0, p1, p2, p3, pl⟩ := px.lease
      have dld := dl.drew
      have hwd := how2.drew
      have pxd := px.drew
      have hw1 : IntKind.i64.wrap (T + x.u) = T + x.u := by rw [IntKind.wrap_i64]; omega
      have hw2 : IntKind.i64.wrap (T + x.u - x.f) = T + x.u - x.f := by rw [IntKind.wrap_i64]; omega
      have hTE : T + (x.u - x.f) = T + x.u - x.f := by omega
      rw [hTE] at E3
      clear hTE
      go_wp2_with fail
      go_region_held3 (fun w' => w'.cell? ⟨w1.heap.size, 0, none⟩ = some (.int .i64 x.c) ∧ w'.cell? ⟨w1.heap.size, 1, none⟩ = some (.int .i64 x.o) ∧ w'.cell? ⟨w1.heap.size, 2, none⟩ = some (.int .i64 x.f) ∧ w'.cell? ⟨w1.heap.size, 3, none⟩ = some (.int .i64 x.u))
        (first | with_reducible exact ⟨p0, p1, p2, p3⟩ | with_reducible exact ⟨q0, q1, q2, q3⟩ | with_reducible exact ⟨r0, r1, r2, r3⟩ | go_keep)
        (first
          | (go_at_call 22; (with_reducible refine (iLeasedTime_any A2 c2 V x.o _ hwd.sees HC2.out (Nat.le_trans HVn.out (by decide))).mono ?_); rintro e w6 ⟨he, hb6⟩; rw [E3.out] at he; subst he; have dl6 := dld.below hb6; have px6 := pxd.below hb6 pxd.lt; obtain ⟨q0, q1, q2, q3, ql⟩ := px6.lease)
          | (go_at_call 22; (with_reducible refine (iLeasedTime_any A c l x.o _ dl6.sees dl6.cap dl6.n4).mono ?_); rintro e w7 ⟨he, hb7⟩; rw [E4.out] at he; subst he; have dl7 := dl6.below hb7; have px7 := px6.below hb7 px6.lt; obtain ⟨r0, r1, r2, r3, rl⟩ := px7.lease)
          | fail)
      all_goals
        go_wp2
        go_ret
        exact ⟨by simp, dl7.bel⟩
end Go.Proofs.Ytahnglpadmmidaa
