/-
  The walk of the law FnOwnerAt: at every code it returns true and changes nothing that was there. Conditions: none.
-/
import Derived.Test.YtncijbmahidjbaaLsDraw
import Derived.Test.YtncijbmahidjbaaLsE
import Derived.Test.YtncijbmahidjbaaLeaseMathB
import Derived.Test.YtncijbmahidjbaaLawFrame
import Derived.BigQuiet
import Derived.Deep.RegionHeldLaw
namespace Go.Proofs.Ytncijbmahidjbaa
open Go.RowKit Lse

set_option maxHeartbeats 4000000 in
theorem walkOwnerAt (a : Option Addr) (len cap : Nat) (zs : List Int) (w : World) (hn : zs.length = len) (hc : len ≤ cap) (hcc : cap ≤ maxLen) (h : Sees w w.heap.size a (byts zs)) (hz : ∀ y ∈ zs, 0 ≤ y ∧ y ≤ 255) :
    Calls Try.prog 4 #[.slice a len cap] w fun e w' => e = .returned (.bool true) ∧ Below w.heap.size w w' := by
  have HE := hid hn
  have HC := hid hcc
  have HZ := hid hz
  clear hn hcc hz
  by_cases hbig : 1048576 < len
  · go_enter Try.func4, Try.ntmps4
    go_wp2
    go_ret
    exact ⟨rfl, Below.refl _ _⟩
  · go_enter Try.func4, Try.ntmps4
    go_wp2_with fail
    refine (drawOwnerAt_any _ _ _ _ _ h HZ.out HE.out hc (by omega) HC.out).mono ?_
    rintro e w1 ⟨A, c, l, q, t, rfl, dl, hq0, hq5⟩
    obtain ⟨V, hV⟩ : ∃ V, V = ownerAt l q t := ⟨_, rfl⟩
    have E : Hid (ownerAt l q t = V) := hid hV.symm
    have HG := hid (owner_ge l q t)
    rw [← hV] at HG
    clear hV
    go_wp2_with fail
    refine (iOwnerAt_any A c l q t _ dl.sees dl.2.2.2 (Nat.le_trans dl.2.2.1 (by decide))).mono ?_
    rintro e w2 ⟨he, hb⟩
    rw [E.out] at he
    subst he
    replace dl := dl.below hb
    clear hb
    go_wp2_with fail
    refine (sOwnerAt_any A c l q t _ dl.sees (Nat.le_trans dl.2.2.1 (by decide))).mono ?_
    rintro e w2 ⟨he, hb⟩
    rw [E.out] at he
    subst he
    replace dl := dl.below hb
    clear hb
    rcases hv : validB l with _ | _
    · have HV := hid hv
      clear hv
      go_wp2_with fail
      refine (iValidLeases_any A c l _ dl.sees dl.2.2.2 (Nat.le_trans dl.2.2.1 (by decide))).mono ?_
      rintro e w2 ⟨he, hb⟩
      rw [HV.out] at he
      subst he
      replace dl := dl.below hb
      clear hb
      go_wp2_with fail
      refine (sOwnerAt_any A c l q t _ dl.sees (Nat.le_trans dl.2.2.1 (by decide))).mono ?_
      rintro e w2 ⟨he, hb⟩
      rw [E.out] at he
      subst he
      replace dl := dl.below hb
      clear hb
      go_wp2
      go_ret
      exact ⟨by simp, dl.bel⟩
    · have HV := hid hv
      clear hv
      go_wp2_with fail
      refine (iValidLeases_any A c l _ dl.sees dl.2.2.2 (Nat.le_trans dl.2.2.1 (by decide))).mono ?_
      rintro e w2 ⟨he, hb⟩
      rw [HV.out] at he
      subst he
      replace dl := dl.below hb
      clear hb
      go_wp2
      go_loopw [7] (fun i wr => ∃ k : Nat, k ≤ l.length ∧ i = .int .i64 k ∧ DL w wr A c l) (fun i _ => l.length - (intOf i).toNat)
      case atStart => exact ⟨0, Nat.zero_le _, rfl, dl⟩
      case round =>
        clear dl
        obtain ⟨k, hk, rfl, dl⟩ := hrel
        have hl13 := dl.2.2.1
        by_cases hlt : k < l.length
        · have hi : (k : Int) < (l.length : Int) := by omega
          obtain ⟨b, o, rfl, hbl, e0, e1, e2, e3⟩ := dl.sees.lease hlt
          have hok := L.ok_iff.1 (ok_of hlt HV.out)
          have hO1 := hid (owner_ends HV.out (List.getElem_mem hlt))
          obtain ⟨x, hx⟩ : ∃ x, x = l[k] := ⟨_, rfl⟩
          rw [← hx] at e0 e1 e2 e3 hok hO1
          clear hx
          obtain ⟨_, _, _, _, g5, g6, g7⟩ := hok
          have hwr1 : IntKind.i64.wrap (x.u - 1) = x.u - 1 := by rw [IntKind.wrap_i64]; omega
          have px := At.new wr 27 #[.int .i64 x.c, .int .i64 x.o, .int .i64 x.f, .int .i64 x.u]
          replace dl := dl.alloc (.cells #[.int .i64 x.c, .int .i64 x.o, .int .i64 x.f, .int .i64 x.u] 27)
          obtain ⟨p0, p1, p2, p3, pl⟩ := px.lease
          have dld := dl.drew
          have pxd := px.drew
          go_wp2_with fail
          go_region_held3 (fun w' => w'.cell? ⟨wr.heap.size, 0, none⟩ = some (.int .i64 x.c) ∧ w'.cell? ⟨wr.heap.size, 1, none⟩ = some (.int .i64 x.o) ∧ w'.cell? ⟨wr.heap.size, 2, none⟩ = some (.int .i64 x.f) ∧ w'.cell? ⟨wr.heap.size, 3, none⟩ = some (.int .i64 x.u))
            (first | with_reducible exact ⟨p0, p1, p2, p3⟩ | with_reducible exact ⟨q0, q1, q2, q3⟩ | with_reducible exact ⟨r0, r1, r2, r3⟩ | go_keep)
            (first
              | (go_at_call 14; (with_reducible refine (iOwnerAt_any (some ⟨b, o, none⟩) c l x.c x.f _ dld.sees dld.cap dld.n4).mono ?_); rintro e w6 ⟨he, hb6⟩; rw [hO1.out.1] at he; subst he; have dl6 := dld.below hb6; have px6 := pxd.below hb6 pxd.lt; obtain ⟨q0, q1, q2, q3, ql⟩ := px6.lease)
              | (go_at_call 14; (with_reducible refine (iOwnerAt_any (some ⟨b, o, none⟩) c l x.c (x.u - 1) _ dl6.sees dl6.cap dl6.n4).mono ?_); rintro e w7 ⟨he, hb7⟩; rw [hO1.out.2] at he; subst he; have dl7 := dl6.below hb7; have px7 := px6.below hb7 px6.lt; obtain ⟨r0, r1, r2, r3, rl⟩ := px7.lease)
              | fail)
          all_goals
            go_wp2
            go_roundw
            case rel => exact ⟨k + 1, by omega, by go_num, dl7⟩
            case measure => simp [intOf]; omega
        · have hi : ¬ (k : Int) < (l.length : Int) := by omega
          obtain ⟨v1, v2⟩ := HG.out
          go_wp2
          go_ret
          exact ⟨by simp; try omega, dl.bel⟩
end Go.Proofs.Ytncijbmahidjbaa
