/-
  The walk of the law FnAddLease: at every code it returns true and changes nothing that was there. Conditions: none.
-/
import Derived.Test.YtahnglpadmmidaaLsDraw
import Derived.Test.YtahnglpadmmidaaLawLs
import Derived.Test.YtahnglpadmmidaaAddMath
import Derived.Test.YtahnglpadmmidaaLsE
import Derived.Test.YtahnglpadmmidaaLawFrame
import Derived.BigQuiet
import Derived.Deep.RegionHeldLaw
namespace Go.Proofs.Ytahnglpadmmidaa
open Go.RowKit Lse

set_option maxHeartbeats 4000000 in
theorem walkAddLease (a : Option Addr) (len cap : Nat) (zs : List Int) (w : World) (hn : zs.length = len) (hc : len ≤ cap) (hcc : cap ≤ maxLen) (h : Sees w w.heap.size a (byts zs)) (hz : ∀ y ∈ zs, 0 ≤ y ∧ y ≤ 255) :
    Calls Try.prog 4 #[.slice a len cap] w fun e w' => e = .returned (.bool true) ∧ Below w.heap.size w w' := by
  have HE := hid hn
  have HC := hid hcc
  have HZ := hid hz
  clear hn hcc hz
  by_cases hbig : 1048576 < len
  · go_enter Try.func4, Try.ntmps4
    go_wp2
    go_ret
    exact ⟨rfl, Below.refl _ _⟩
  · go_enter Try.func4, Try.ntmps4
    go_wp2_with fail
    refine (drawAddLease_any _ _ _ _ _ h HZ.out HE.out hc (by omega) HC.out).mono ?_
    rintro e w1 ⟨A, c, l, x, rfl, dl, _, _, _, _⟩
    have px := At.new w1 30 #[.int .i64 x.c, .int .i64 x.o, .int .i64 x.f, .int .i64 x.u]
    replace dl := dl.alloc (.cells #[.int .i64 x.c, .int .i64 x.o, .int .i64 x.f, .int .i64 x.u] 30)
    obtain ⟨K, hK⟩ : ∃ K, K = addB l x := ⟨_, rfl⟩
    have EK : Hid (addB l x = K) := hid hK.symm
    obtain ⟨V, hV⟩ : ∃ V, V = addL l x := ⟨_, rfl⟩
    have EV : Hid (addL l x = V) := hid hV.symm
    have HVn : Hid (V.length ≤ 14) := hid (by rw [hV]; have := addL_len l x; have := dl.2.2.1; omega)
    clear hK hV
    obtain ⟨p0, p1, p2, p3, pl⟩ := px.lease
    go_wp2_with fail
    refine (iAddLease_any A c l x _ dl.sees dl.2.2.2 (Nat.le_trans dl.2.2.1 (by decide))).mono ?_
    rintro e w2 ⟨vw2, he, how2, hb⟩
    rw [EK.out] at he
    subst he
    rw [EV.out] at how2
    replace dl := dl.below hb
    replace px := px.below hb px.lt
    clear hb
    obtain ⟨A2, c2, rfl, hc2, _, _⟩ := how2.form
    have HC2 := hid hc2
    clear hc2 p0 p1 p2 p3 pl
    obtain ⟨p0, p1, p2, p3, pl⟩ := px.lease
    go_wp2_with fail
    refine (sAddLease_any A c l x _ dl.sees  (Nat.le_trans dl.2.2.1 (by decide))).mono ?_
    rintro e w3 ⟨vw3, he, how3, hb⟩
    rw [EK.out] at he
    subst he
    rw [EV.out] at how3
    replace dl := dl.below hb
    replace how2 := how2.below hb
    replace px := px.below hb px.lt
    clear hb
    obtain ⟨A3, c3, rfl, _, _, _⟩ := how3.form
    clear p0 p1 p2 p3 pl
    go_wp2_with fail
    refine (equalLeases_same rfl how2.sees how3.sees (Nat.le_trans HVn.out (by decide))).mono ?_
    rintro e w4 ⟨rfl, hb⟩
    replace dl := dl.below hb
    replace how2 := how2.below hb
    replace how3 := how3.below hb
    replace px := px.below hb px.lt
    clear hb
    rcases K with _ | _
    · go_wp2_with fail
      refine (equalLeases_same rfl how2.sees how3.sees (Nat.le_trans HVn.out (by decide))).mono ?_
      rintro e w5 ⟨rfl, hb⟩
      replace dl := dl.below hb
      go_wp2
      go_ret
      exact ⟨rfl, dl.bel⟩
    · have hVx : V = l ++ [x] := by rw [← EV.out, add_yes EK.out]
      have hkk := EK.out
      simp only [addB, Bool.and_eq_true] at hkk
      obtain ⟨hO1, hO2⟩ := add_owner hkk.1 hkk.2
      rw [← hVx] at hO1
      have HO1 := hid hO1
      have HO2 := hid hO2
      have hVl : V.length = l.length + 1 := by rw [hVx]; simp
      have hVli : (V.length : Int) = (l.length : Int) + 1 := by omega
      have HVT : Hid (V.take l.length = l) := hid (by rw [hVx]; simp)
      have hlt : l.length < V.length := by omega
      have hVn : V[l.length] = x := by
        have e : ∀ (M : List L) (h : l.length < M.length), M = l ++ [x] → M[l.length] = x := fun M h hM => by subst hM; simp
        exact e V hlt hVx
      have HLT := hid hlt
      have HVN := hid (show ∀ h : l.length < V.length, V[l.length] = x from fun _ => hVn)
      have hl13 := dl.2.2.1
      have hwb := hid how2
      obtain ⟨b, o, hA2, hbl, e0, e1, e2, e3⟩ := (show Sees w4 w4.heap.size A2 (lvals V) from how2.sees).lease hlt
      rw [hVn] at e0 e1 e2 e3
      have hlc2 : (l.length : Int) ≤ (c2 : Int) := by have := HC2.out; omega
      have hEq : ((V.length : Int) == (l.length : Int) + 1) = true := by simpa using hVli
      have hl00 : ((V.length : Int) == 0) = false := beq_eq_false_iff_ne.2 (by omega)
      have hltI : (l.length : Int) < (V.length : Int) := by omega
      clear how3 hkk hO1 hO2 hVn hVx hVl hVli
      subst hA2
      have hw1 : IntKind.i64.wrap ((l.length : Int) + 1) = (l.length : Int) + 1 := by rw [IntKind.wrap_i64]; omega
      obtain ⟨p0, p1, p2, p3, pl⟩ := px.lease
      have dld := dl.drew
      have hwd := how2.drew
      have pxd := px.drew
      go_wp2_with fail
      go_region_held3 (fun w' => w'.cell? ⟨w1.heap.size, 0, none⟩ = some (.int .i64 x.c) ∧ w'.cell? ⟨w1.heap.size, 1, none⟩ = some (.int .i64 x.o) ∧ w'.cell? ⟨w1.heap.size, 2, none⟩ = some (.int .i64 x.f) ∧ w'.cell? ⟨w1.heap.size, 3, none⟩ = some (.int .i64 x.u) ∧ w'.cell? ⟨b, o + l.length * 4, none⟩ = some (.int .i64 x.c) ∧ w'.cell? ⟨b, o + l.length * 4 + 1, none⟩ = some (.int .i64 x.o) ∧ w'.cell? ⟨b, o + l.length * 4 + 2, none⟩ = some (.int .i64 x.f) ∧ w'.cell? ⟨b, o + l.length * 4 + 3, none⟩ = some (.int .i64 x.u))
        (first | with_reducible exact ⟨p0, p1, p2, p3, e0, e1, e2, e3⟩ | with_reducible exact ⟨q0, q1, q2, q3, f0, f1, f2, f3⟩ | with_reducible exact ⟨r0, r1, r2, r3, g0, g1, g2, g3⟩ | with_reducible exact ⟨s0, s1, s2, s3, j0, j1, j2, j3⟩ | go_keep)
        (first
          | (go_at_call 20; (with_reducible refine (equalLeases_same rfl (by have hh := hwd.sees.leases_take l.length; rw [HVT.out] at hh; exact hh) dld.sees dld.n4).mono ?_); rintro e w6 ⟨rfl, hb6⟩; have dl6 := dld.below hb6; have hw6 := hwd.below hb6; have px6 := pxd.below hb6 pxd.lt; obtain ⟨q0, q1, q2, q3, ql⟩ := px6.lease; obtain ⟨f0, f1, f2, f3⟩ := own_cells hw6 HLT.out (HVN.out _))
          | (go_at_call 21; (with_reducible refine (iOwnerAt_any (some ⟨b, o, none⟩) c2 V x.c x.f _ hw6.sees HC2.out (Nat.le_trans HVn.out (by decide))).mono ?_); rintro e w7 ⟨he, hb7⟩; rw [HO1.out] at he; subst he; have dl7 := dl6.below hb7; have hw7 := hw6.below hb7; have px7 := px6.below hb7 px6.lt; obtain ⟨r0, r1, r2, r3, rl⟩ := px7.lease; obtain ⟨g0, g1, g2, g3⟩ := own_cells hw7 HLT.out (HVN.out _))
          | (go_at_call 21; (with_reducible refine (iOwnerAt_any A c l x.c x.f _ dl7.sees dl7.cap dl7.n4).mono ?_); rintro e w8 ⟨he, hb8⟩; rw [HO2.out] at he; subst he; have dl8 := dl7.below hb8; have hw8 := hw7.below hb8; have px8 := px7.below hb8 px7.lt; obtain ⟨s0, s1, s2, s3, sl⟩ := px8.lease; obtain ⟨j0, j1, j2, j3⟩ := own_cells hw8 HLT.out (HVN.out _))
          | fail)
      all_goals
        go_wp2
        go_ret
        exact ⟨by simp, dl8.bel⟩
end Go.Proofs.Ytahnglpadmmidaa
