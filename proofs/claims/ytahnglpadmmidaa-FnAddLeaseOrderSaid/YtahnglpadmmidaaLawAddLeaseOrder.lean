/-
  The walk of the law FnAddLeaseOrder: at every code it returns true and changes nothing that was there. Conditions: none.
-/
import Derived.Test.YtahnglpadmmidaaLsDraw
import Derived.Test.YtahnglpadmmidaaLawLs
import Derived.Test.YtahnglpadmmidaaAddMath
import Derived.Test.YtahnglpadmmidaaLawFrame
import Derived.BigQuiet
import Derived.Deep.RegionHeldLaw
namespace Go.Proofs.Ytahnglpadmmidaa
open Go.RowKit Lse

set_option maxHeartbeats 4000000 in
theorem walkAddLeaseOrder (a : Option Addr) (len cap : Nat) (zs : List Int) (w : World) (hn : zs.length = len) (hc : len ≤ cap) (hcc : cap ≤ maxLen) (h : Sees w w.heap.size a (byts zs)) (hz : ∀ y ∈ zs, 0 ≤ y ∧ y ≤ 255) :
    Calls Try.prog 6 #[.slice a len cap] w fun e w' => e = .returned (.bool true) ∧ Below w.heap.size w w' := by
  have HE := hid hn
  have HC := hid hcc
  have HZ := hid hz
  clear hn hcc hz
  by_cases hbig : 1048576 < len
  · go_enter Try.func6, Try.ntmps6
    go_wp2
    go_ret
    exact ⟨rfl, Below.refl _ _⟩
  · go_enter Try.func6, Try.ntmps6
    go_wp2_with fail
    refine (drawAddLease_any _ _ _ _ _ h HZ.out HE.out hc (by omega) HC.out).mono ?_
    rintro e w1 ⟨A, c, l, x, rfl, dl, _, _, _, _⟩
    have px := At.new w1 30 #[.int .i64 x.c, .int .i64 x.o, .int .i64 x.f, .int .i64 x.u]
    replace dl := dl.alloc (.cells #[.int .i64 x.c, .int .i64 x.o, .int .i64 x.f, .int .i64 x.u] 30)
    obtain ⟨K, hK⟩ : ∃ K, K = addB l x := ⟨_, rfl⟩
    have EK : Hid (addB l x = K) := hid hK.symm
    obtain ⟨V, hV⟩ : ∃ V, V = addL l x := ⟨_, rfl⟩
    have EV : Hid (addL l x = V) := hid hV.symm
    have HVn : Hid (V.length ≤ 14) := hid (by rw [hV]; have := addL_len l x; have := dl.2.2.1; omega)
    clear hK hV
    obtain ⟨p0, p1, p2, p3, pl⟩ := px.lease
    go_wp2_with fail
    refine (iAddLease_any A c l x _ dl.sees dl.2.2.2 (Nat.le_trans dl.2.2.1 (by decide))).mono ?_
    rintro e w2 ⟨vw2, he, how2, hb⟩
    rw [EK.out] at he
    subst he
    rw [EV.out] at how2
    replace dl := dl.below hb
    replace px := px.below hb px.lt
    clear hb
    obtain ⟨A2, c2, rfl, hc2, _, _⟩ := how2.form
    have HC2 := hid hc2
    clear hc2 p0 p1 p2 p3 pl
    obtain ⟨p0, p1, p2, p3, pl⟩ := px.lease
    go_wp2_with fail
    refine (sAddLease_any A c l x _ dl.sees  (Nat.le_trans dl.2.2.1 (by decide))).mono ?_
    rintro e w3 ⟨vw3, he, how3, hb⟩
    rw [EK.out] at he
    subst he
    rw [EV.out] at how3
    replace dl := dl.below hb
    replace how2 := how2.below hb
    replace px := px.below hb px.lt
    clear hb
    obtain ⟨A3, c3, rfl, _, _, _⟩ := how3.form
    clear p0 p1 p2 p3 pl
    go_wp2_with fail
    refine (equalLeases_same rfl how2.sees how3.sees (Nat.le_trans HVn.out (by decide))).mono ?_
    rintro e w4 ⟨rfl, hb⟩
    replace dl := dl.below hb
    replace how2 := how2.below hb
    replace how3 := how3.below hb
    replace px := px.below hb px.lt
    clear hb
    rcases K with _ | _
    · go_wp2_with fail
      refine (equalLeases_same rfl how2.sees how3.sees (Nat.le_trans HVn.out (by decide))).mono ?_
      rintro e w5 ⟨rfl, hb⟩
      replace dl := dl.below hb
      go_wp2
      go_ret
      exact ⟨rfl, dl.bel⟩
    · have hVx : V = l ++ [x] := by rw [← EV.out, add_yes EK.out]
      have HO := hid (add_order (y := ⟨1, 2, 40, 60⟩) EK.out)
      rw [← hVx] at HO
      clear hVx how3
      obtain ⟨K1, hK1⟩ : ∃ K1, K1 = addB V ⟨1, 2, 40, 60⟩ := ⟨_, rfl⟩
      have EK1 : Hid (addB V ⟨1, 2, 40, 60⟩ = K1) := hid hK1.symm
      obtain ⟨K2, hK2⟩ : ∃ K2, K2 = addB l ⟨1, 2, 40, 60⟩ := ⟨_, rfl⟩
      have EK2 : Hid (addB l ⟨1, 2, 40, 60⟩ = K2) := hid hK2.symm
      obtain ⟨V2, hV2⟩ : ∃ V2, V2 = addL l ⟨1, 2, 40, 60⟩ := ⟨_, rfl⟩
      have EV2 : Hid (addL l ⟨1, 2, 40, 60⟩ = V2) := hid hV2.symm
      have HV2n : Hid (V2.length ≤ 14) := hid (by rw [hV2]; have := addL_len l ⟨1, 2, 40, 60⟩; have := dl.2.2.1; omega)
      obtain ⟨K3, hK3⟩ : ∃ K3, K3 = addB V2 x := ⟨_, rfl⟩
      have EK3 : Hid (addB V2 x = K3) := hid hK3.symm
      rw [← hK1, ← hK2, ← hV2, ← hK3] at HO
      clear hK1 hK2 hV2 hK3
      have py := At.new w4 30 #[.int .i64 1, .int .i64 2, .int .i64 40, .int .i64 60]
      replace dl := dl.alloc (.cells #[.int .i64 1, .int .i64 2, .int .i64 40, .int .i64 60] 30)
      replace how2 := how2.alloc (.cells #[.int .i64 1, .int .i64 2, .int .i64 40, .int .i64 60] 30)
      replace px := px.alloc (.cells #[.int .i64 1, .int .i64 2, .int .i64 40, .int .i64 60] 30)
      have pyl : At _ _ _ #[.int .i64 (⟨1, 2, 40, 60⟩ : L).c, .int .i64 (⟨1, 2, 40, 60⟩ : L).o, .int .i64 (⟨1, 2, 40, 60⟩ : L).f, .int .i64 (⟨1, 2, 40, 60⟩ : L).u] := py
      clear pyl
      obtain ⟨q0, q1, q2, q3⟩ := (show _ ∧ _ ∧ _ ∧ _ from ⟨py.cell 0, py.cell 1, py.cell 2, py.cell 3⟩)
      go_wp2_with fail
      refine (iAddLease_any A2 c2 V ⟨1, 2, 40, 60⟩ _ how2.sees HC2.out (Nat.le_trans HVn.out (by decide))).mono ?_
      rintro e w5 ⟨v5, he, ho5, hb⟩
      rw [EK1.out] at he
      subst he
      replace dl := dl.below hb
      replace px := px.below hb px.lt
      replace py := py.below hb py.lt
      clear hb ho5 how2 q0 q1 q2 q3
      obtain ⟨q0, q1, q2, q3⟩ := (show _ ∧ _ ∧ _ ∧ _ from ⟨py.cell 0, py.cell 1, py.cell 2, py.cell 3⟩)
      go_wp2_with fail
      refine (iAddLease_any A c l ⟨1, 2, 40, 60⟩ _ dl.sees dl.cap dl.n4).mono ?_
      rintro e w6 ⟨v6, he, ho6, hb⟩
      rw [EK2.out] at he
      subst he
      rw [EV2.out] at ho6
      replace dl := dl.below hb
      replace px := px.below hb px.lt
      clear hb py q0 q1 q2 q3
      obtain ⟨A6, c6, rfl, hc6, _, hs6⟩ := ho6.form
      have HC6 := hid hc6
      clear hc6
      obtain ⟨p0, p1, p2, p3, pl⟩ := px.lease
      go_wp2_with fail
      refine (iAddLease_any A6 c6 V2 x _ hs6 HC6.out (Nat.le_trans HV2n.out (by decide))).mono ?_
      rintro e w7 ⟨v7, he, ho7, hb⟩
      rw [EK3.out] at he
      subst he
      replace dl := dl.below hb
      rw [HO.out]
      clear hb ho7 ho6 hs6 px p0 p1 p2 p3 pl
      rcases K2 with _ | _
      · go_wp2
        go_ret
        exact ⟨by simp, dl.bel⟩
      · go_wp2
        go_ret
        exact ⟨by simp, dl.bel⟩
end Go.Proofs.Ytahnglpadmmidaa
