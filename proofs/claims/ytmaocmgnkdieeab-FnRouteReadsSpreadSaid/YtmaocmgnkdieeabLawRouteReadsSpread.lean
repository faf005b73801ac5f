/-
  The walk of the law FnRouteReadsSpread: at every code it returns true and changes nothing that was there. Conditions: none.
-/
import Derived.Test.YtmaocmgnkdieeabLawHo
import Derived.Test.YtmaocmgnkdieeabHoDrawR
import Derived.Test.YtmaocmgnkdieeabSpreadMath
import Derived.Test.YtmaocmgnkdieeabLawFrame
import Derived.BigQuiet
import Derived.Deep.RegionHeldLaw
namespace Go.Proofs.Ytmaocmgnkdieeab
open Go.RowKit Hos

theorem sees_two (w : World) : Sees (w.alloc (.cells #[.int .i64 0, .int .i64 0, .bool false, .int .i64 0, .int .i64 0, .bool false] 40)) (w.alloc (.cells #[.int .i64 0, .int .i64 0, .bool false, .int .i64 0, .int .i64 0, .bool false] 40)).heap.size (some ⟨w.heap.size, 0, none⟩) (strip hcl (two 0 0)) := fun _ => by
  refine ⟨w.heap.size, 0, rfl, by simp, fun j u hu => ?_⟩
  have := cells_new w [.int .i64 0, .int .i64 0, .bool false, .int .i64 0, .int .i64 0, .bool false] 40 j u (by simpa [strip, two, hcl] using hu)
  rw [show (⟨w.heap.size, 0, none⟩ : Addr).add j = ⟨w.heap.size, 0 + j, none⟩ by simp [Addr.add]; intro h; exact h.symm] at this
  exact this
set_option maxHeartbeats 8000000 in
set_option maxRecDepth 16384 in
theorem walkRouteReadsSpread (a : Option Addr) (len cap : Nat) (zs : List Int) (w : World) (hn : zs.length = len) (hc : len ≤ cap) (hcc : cap ≤ maxLen) (h : Sees w w.heap.size a (byts zs)) (hz : ∀ y ∈ zs, 0 ≤ y ∧ y ≤ 255) :
    Calls Try.prog 4 #[.slice a len cap] w fun e w' => e = .returned (.bool true) ∧ Below w.heap.size w w' := by
  have HE := hid hn
  have HC := hid hcc
  have HZ := hid hz
  clear hn hcc hz
  by_cases hbig : 1048576 < len
  · go_enter Try.func4, Try.ntmps4
    go_wp2
    go_ret
    exact ⟨rfl, Below.refl _ _⟩
  · go_enter Try.func4, Try.ntmps4
    go_wp2_with fail
    refine (drawRouteReads_any _ _ _ _ _ h HZ.out HE.out hc (by omega) HC.out).mono ?_
    rintro e w1 ⟨A, c, l, AG, cG, gs, rfl, dl⟩
    obtain ⟨_, _, _, hl6, hlc, hg14, hgc⟩ := id dl
    obtain ⟨T, hT⟩ : ∃ T, T = readsL l gs := ⟨_, rfl⟩
    have E : Hid (readsL l gs = T) := hid hT.symm
    have HT := hid hT
    have HN := hid (show T.length ≤ 14 by rw [hT]; have := readsL_len l gs; omega)
    clear hT
    go_wp2_with fail
    refine (iRouteReads_any A AG c cG l gs _ dl.sees dl.lags dl.n1 dl.n2).mono ?_
    rintro e w2 ⟨v1, rfl, ho1, hb⟩
    rw [E.out] at ho1
    replace dl := dl.below hb
    clear hb
    obtain ⟨A1, c1, rfl, _⟩ := ho1.form
    go_wp2_with fail
    refine (sRouteReads_any A AG c cG l gs _ dl.sees dl.lags dl.n1 dl.n2).mono ?_
    rintro e w2 ⟨v2, rfl, ho2, hb⟩
    rw [E.out] at ho2
    replace dl := dl.below hb
    replace ho1 := ho1.below hb
    clear hb
    obtain ⟨A2, c2, rfl, _⟩ := ho2.form
    go_wp2_with fail
    refine (hEq_same A1 A2 c1 c2 T _ (Sees.of_own ho1.out) (Sees.of_own ho2.out) (Nat.le_trans HN.out (by decide))).mono ?_
    rintro e w2 ⟨rfl, hb⟩
    replace dl := dl.below hb
    replace ho1 := ho1.below hb
    replace ho2 := ho2.below hb
    clear hb
    clear ho2
    by_cases hq : gs.length ≤ 12
    · skip
      have hqb : ¬ (12 : Int) < (gs.length : Int) := by omega
      have HQ12 := hid hq
      clear hq E HT HN
      clear ho1
      obtain ⟨i0, hi0, hz0, hz1, hz2⟩ := info_parts intInfo
      have ot0 : Own (w2.alloc (.cells #[] 3)) w2.heap.size (.slice (some ⟨w2.heap.size, 0, none⟩) 0 0) [] := made_at 3 1 rfl (Nat.le_refl _)
      have hb0 := (Below.refl w2.heap.size w2).alloc (Nat.le_refl _) (.cells #[] 3)
      go_wp2_with fail
      go_loopw [6, 7] (fun v i wr => ∃ (A3 : Option Addr) (c3 : Nat) (m : List Int), m.length ≤ gs.length ∧ i = .int .i64 m.length ∧ v = .slice A3 m.length c3 ∧ Own wr w2.heap.size v m ∧ Hid (m = List.replicate m.length 1000) ∧ Below w2.heap.size w2 wr) (fun _ i _ => gs.length - (intOf i).toNat)
      case atStart => exact ⟨_, _, [], Nat.zero_le _, rfl, rfl, ot0, hid rfl, hb0⟩
      case round =>
        clear ot0 hb0
        obtain ⟨A3, c3, m, hk, rfl, rfl, ot, HA, hb⟩ := hrel
        have hz := hb.size
        have h12 := HQ12.out
        by_cases hlt : m.length < gs.length
        · skip
          have hi : (m.length : Int) < (gs.length : Int) := by omega
          have hlow := ot.out.lt
          go_wp2_with (at_builtin; refine wpList_append_own _ rfl _ _ 26 rfl w2.heap.size 3 i0 (.int .i64 0) 1 8 Try.underlying26 hi0 hz0 hz1 hz2 rfl (by decide) _ _ _ rfl (own_alloc ot.out _) ⟨wr.heap.size, 0, none⟩ 1 1 [.int .i64 1000] rfl rfl (by simpa using cells_new wr [.int .i64 1000] _) ?c2 ?c3 ?c4 ?c5 ?_)
          case c2 => simp [Value.oneCell']
          case c3 => unfold maxLen; omega
          case c4 => omega
          case c5 => simp; omega
          case _ =>
            intro v6 w6 h6 hg7 _
            have ot6 : Own w6 w2.heap.size v6 (m ++ [1000]) := by unfold Own; rw [ints_app, List.length_append]; exact h6
            have hb6 : Below w2.heap.size (wr.alloc (.cells #[.int .i64 1000] 3)) w6 := (Below.refl _ _).grown hg7 (by simp; omega) (fun q hq => (hlow q hq).1)
            have hbw := (hb.alloc hb.size (.cells #[.int .i64 1000] 3)).trans hb6
            obtain ⟨A6, c6, rfl, _⟩ := Own.form ot6
            have e6 : (m ++ [1000]).length = m.length + 1 := by simp
            have HR6 := hid (show m ++ [1000] = List.replicate (m ++ [1000]).length 1000 by rw [e6, List.replicate_succ', ← HA.out])
            clear h6 hg7 hlow ot hb hb6
            go_wp2
            go_roundw
            case rel => exact ⟨A6, c6, m ++ [1000], by rw [e6]; omega, by rw [e6]; go_num, by rw [e6], ot6, HR6, hbw⟩
            case measure => simp [intOf]; omega
        · skip
          have hi : ¬ (m.length : Int) < (gs.length : Int) := by omega
          have hle : m.length = gs.length := by omega
          have hsp := spread (n := m.length) (by omega)
          rw [← HA.out] at hsp
          obtain ⟨Q, hQ⟩ : ∃ Q, Q = readsL (two 0 0) m := ⟨_, rfl⟩
          rw [← hQ] at hsp
          have EQ := hid hQ.symm
          have HQL := hid hsp.1
          have HQI := hid hsp.2
          have hqe : ((Q.length : Int) == (gs.length : Int)) = true := by rw [hsp.1, hle]; simp
          have HLE := hid hle
          clear hsp hQ hle hlt
          have HOT := hid ot
          have HM4 := hid (show m.length ≤ 4194304 by omega)
          go_wp2_with fail
          refine (iRouteReads_len (l := two 0 0) rfl rfl (sees_two wr) (Sees.of_own (own_alloc HOT.out.out _)) (by decide) HM4.out).mono ?_
          rintro e w7 ⟨v7, rfl, ho7, hb7⟩
          rw [EQ.out] at ho7
          obtain ⟨A7, c7, rfl, _⟩ := ho7.form
          have hbq := (hb.alloc hb.size (.cells #[.int .i64 0, .int .i64 0, .bool false, .int .i64 0, .int .i64 0, .bool false] 40)).trans (hb7.mono (hb.alloc hb.size (.cells #[.int .i64 0, .int .i64 0, .bool false, .int .i64 0, .int .i64 0, .bool false] 40)).size)
          have HBQ := hid (dl.below hbq)
          clear hbq hb7 hb ot
          have hsq := Sees.of_own ho7.out
          go_wp2_with fail
          go_loop [9] (fun i => ∃ k : Nat, k ≤ Q.length ∧ i = .int .i64 k) (fun i => Q.length - (intOf i).toNat)
          case atStart => exact ⟨0, Nat.zero_le _, rfl⟩
          case round =>
            obtain ⟨k, hkk, rfl⟩ := hrel
            by_cases hlt : k < Q.length
            · skip
              have hki : (k : Int) < (Q.length : Int) := by omega
              obtain ⟨bb, o, rfl, hbl, e0⟩ := hsq.int hlt
              rw [HQI.out k hlt] at e0
              have hq12 : k < 12 := by have := HQL.out; omega
              obtain ⟨y, hy⟩ : ∃ y : Int, y = (((k + 1) % 2 : Nat) : Int) := ⟨_, rfl⟩
              rw [← hy] at e0
              have hkw : IntKind.i64.wrap ((k : Int) + 1) = (k : Int) + 1 := by rw [IntKind.wrap_i64]; omega
              have hkm : Int.tmod ((k : Int) + 1) 2 = y := by rw [hy, Int.tmod_eq_emod_of_nonneg (by omega)]; omega
              clear hy hlt
              go_wp2
              go_round
              case rel => exact ⟨k + 1, by omega, by go_num⟩
              case measure => simp [intOf]; omega
            · skip
              have hki : ¬ (k : Int) < (Q.length : Int) := by omega
              go_wp2
              go_ret
              exact ⟨by first | rfl | (simp; done) | (simp; omega), HBQ.out.bel⟩
    · skip
      have hqb : (12 : Int) < (gs.length : Int) := by omega
      clear hq
      go_wp2_with fail
      refine (sRouteReads_any A AG c cG l gs _ dl.sees dl.lags dl.n1 dl.n2).mono ?_
      rintro e w2 ⟨v3, rfl, ho3, hb⟩
      rw [E.out] at ho3
      replace dl := dl.below hb
      replace ho1 := ho1.below hb
      clear hb
      obtain ⟨A3, c3, rfl, _⟩ := ho3.form
      go_wp2_with fail
      refine (hEq_same A1 A3 c1 c3 T _ (Sees.of_own ho1.out) (Sees.of_own ho3.out) (Nat.le_trans HN.out (by decide))).mono ?_
      rintro e w2 ⟨rfl, hb⟩
      replace dl := dl.below hb
      replace ho1 := ho1.below hb
      replace ho3 := ho3.below hb
      clear hb
      clear ho3
      go_wp2
      go_ret
      exact ⟨by simp, dl.bel⟩
end Go.Proofs.Ytmaocmgnkdieeab
