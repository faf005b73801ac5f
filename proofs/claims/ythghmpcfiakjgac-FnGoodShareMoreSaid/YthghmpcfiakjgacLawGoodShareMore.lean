/-
  The walk of the law FnGoodShareMore: at every code it returns true and changes nothing that was there. Conditions: none.
-/
import Derived.Test.YthghmpcfiakjgacChkGen
import Derived.Test.YthghmpcfiakjgacChkGen2
import Derived.Test.YthghmpcfiakjgacChkD
import Derived.Test.YthghmpcfiakjgacLawFrame
import Derived.Test.YthghmpcfiakjgacChkLawMath
namespace Go.Proofs.Ythghmpcfiakjgac
open Go.RowKit Chk

set_option maxHeartbeats 4000000 in
theorem walkGoodShareMore (a : Option Addr) (len cap : Nat) (zs : List Int) (w : World) (hn : zs.length = len) (hc : len ≤ cap) (hcc : cap ≤ maxLen) (h : Sees w w.heap.size a (byts zs)) (hz : ∀ y ∈ zs, 0 ≤ y ∧ y ≤ 255) :
    Calls Try.prog 7 #[.slice a len cap] w fun e w' => e = .returned (.bool true) ∧ Below w.heap.size w w' := by
  have HE := hid hn
  have HC := hid hcc
  have HZ := hid hz
  clear hn hcc hz
  by_cases hbig : 1048576 < len
  · go_enter Try.func7, Try.ntmps7
    go_wp2
    go_ret
    exact ⟨rfl, Below.refl _ _⟩
  · go_enter Try.func7, Try.ntmps7
    go_wp2_with fail
    refine (drawGoodShare2_any _ _ _ _ _ h HZ.out HE.out hc (by omega) HC.out).mono ?_
    rintro e w1 ⟨A, c, l, rfl, dl⟩
    obtain ⟨dl, hAn⟩ := dl
    obtain ⟨ad, rfl⟩ : ∃ ad, A = some ad := Option.ne_none_iff_exists'.1 hAn
    clear h hbig
    have HCAP := hid dl.cap
    have HLEN := hid dl.len
    obtain ⟨V, hV⟩ : ∃ V, V = share l := ⟨_, rfl⟩
    have HV : Hid (share l = V) := hid hV.symm
    have hcs := share_cases l
    have hmo := share_more (l := l)
    rw [← hV] at hcs hmo
    clear hV
    go_wp2_with fail
    refine (iGoodShare_any _ _ c l _ rfl dl.sees dl.n4).mono ?_
    rintro e w' ⟨he, rfl⟩
    rw [HV.out] at he
    subst he
    go_wp2_with fail
    refine (sGoodShare_any _ _ c l _ rfl dl.sees dl.n4).mono ?_
    rintro e w' ⟨he, rfl⟩
    rw [HV.out] at he
    subst he
    by_cases h1 : V < 0
    · skip
      go_wp2_with fail
      refine (sGoodShare_any _ _ c l _ rfl dl.sees dl.n4).mono ?_
      rintro e w' ⟨he, rfl⟩
      rw [HV.out] at he
      subst he
      go_wp2
      go_ret
      exact ⟨by first | rfl | (simp; done) | (simp; omega), dl.bel⟩
    · skip
      obtain ⟨h12, hVh, _, _⟩ := hcs (by omega)
      by_cases hm : l.length = 12
      · skip
        have hmi := beq_t4 (show (l.length : Int) = 12 by omega)
        clear hm hcs hmo
        go_wp2_with fail
        refine (sGoodShare_any _ _ c l _ rfl dl.sees dl.n4).mono ?_
        rintro e w' ⟨he, rfl⟩
        rw [HV.out] at he
        subst he
        go_wp2
        go_ret
        exact ⟨by first | rfl | (simp; done) | (simp; omega), dl.bel⟩
      · skip
        obtain ⟨m1, m2⟩ := hmo (by omega)
        have hmi := beq_f4 (show ¬ (l.length : Int) = 12 by omega)
        obtain ⟨V1, hV1⟩ : ∃ V1, V1 = share (l ++ [true]) := ⟨_, rfl⟩
        have H1 : Hid (share (l ++ [true]) = V1) := hid hV1.symm
        obtain ⟨V2, hV2⟩ : ∃ V2, V2 = share (l ++ [false]) := ⟨_, rfl⟩
        have H2 : Hid (share (l ++ [false]) = V2) := hid hV2.symm
        rw [← hV1] at m1
        rw [← hV2] at m2
        clear hcs hmo hV1 hV2 hm
        obtain ⟨i0, hi0, hz0, hz1, hz2⟩ := info_parts booInfo
        have hom1 := OwnT.made w1 w1.heap.size (Nat.le_refl _)
        have hbm1 := (Below.refl w1.heap.size w1).alloc (Nat.le_refl _) (.cells #[] 4)
        have hs1 := (dl.alloc (.cells #[] 4)).sees
        go_wp2_with (at_builtin; refine wpList_append_own _ rfl _ _ 23 rfl w1.heap.size 4 i0 (.bool false) 1 1 Try.underlying23 hi0 hz0 hz1 hz2 rfl (by decide) _ _ _ rfl hom1.out _ l.length c (boos l) rfl (by simp [boos]) hs1.add (boos_one l) ?c3 ?c4 ?c5 ?_)
        case c3 => unfold maxLen; simp; omega
        case c4 => simp; omega
        case c5 => simp
        case _ =>
          intro v1 wa1 h5 hg5 _
          have ho1 : OwnT wa1 w1.heap.size v1 l := by unfold OwnT; simpa [show boos ([] : List Bool) = [] from rfl] using h5
          have hba1 : Below w1.heap.size w1 wa1 := hbm1.grown hg5 (by simp) (fun k hk => (hom1.lt k hk).1)
          clear h5 hg5 hom1 hbm1 hs1
          have hza1 := hba1.size
          go_wp2_with (at_builtin; refine wpList_append_own _ rfl _ _ 23 rfl w1.heap.size 4 i0 (.bool false) 1 1 Try.underlying23 hi0 hz0 hz1 hz2 rfl (by decide) _ _ _ rfl (ho1.out.alloc _) ⟨wa1.heap.size, 0, none⟩ 1 1 [.bool true] rfl rfl (by simpa using cells_new wa1 [.bool true] _) ?c2 ?c3 ?c4 ?c5 ?_)
          case c2 => simp [Value.oneCell']
          case c3 => unfold maxLen; omega
          case c4 => omega
          case c5 => simp; omega
          case _ =>
            intro u1 wb1 h5 hg5 _
            obtain ⟨hr1, hbb1⟩ := ho1.snoc (x := true) hba1 (Nat.le_refl _) h5 hg5
            clear h5 hg5 ho1 hba1 hza1
            replace dl := dl.below hbb1
            obtain ⟨AA1, cc1, rfl, hcc1, _, hss1⟩ := hr1.form
            clear hr1 hbb1
            have L1 := hid (show (l ++ [true]).length ≤ 4194304 by simp; omega)
            go_wp2_with fail
            refine (iGoodShare_any AA1 _ cc1 (l ++ [true]) _ (by simp) hss1 L1.out).mono ?_
            rintro e w' ⟨he, rfl⟩
            rw [H1.out] at he
            subst he
            have hom2 := OwnT.made wb1 wb1.heap.size (Nat.le_refl _)
            have hbm2 := (Below.refl wb1.heap.size wb1).alloc (Nat.le_refl _) (.cells #[] 4)
            have hs2 := (dl.alloc (.cells #[] 4)).sees
            go_wp2_with (at_builtin; refine wpList_append_want _ (by rfl) _ _ 23 rfl wb1.heap.size 4 i0 (.bool false) 1 1 Try.underlying23 hi0 hz0 hz1 hz2 rfl (by decide) _ _ _ rfl hom2.out _ l.length c (boos l) rfl (by simp [boos]) hs2.add (boos_one l) ?c3 ?c4 ?c5 ?_)
            case c3 => unfold maxLen; simp; omega
            case c4 => simp; omega
            case c5 => simp
            case _ =>
              intro v2 wa2 h5 hg5
              have ho2 : OwnT wa2 wb1.heap.size v2 l := by unfold OwnT; simpa [show boos ([] : List Bool) = [] from rfl] using h5
              have hba2 : Below wb1.heap.size wb1 wa2 := hbm2.grown hg5 (by simp) (fun k hk => (hom2.lt k hk).1)
              clear h5 hg5 hom2 hbm2 hs2
              have hza2 := hba2.size
              go_wp2_with (at_builtin; refine wpList_append_want _ (by rfl) _ _ 23 rfl wb1.heap.size 4 i0 (.bool false) 1 1 Try.underlying23 hi0 hz0 hz1 hz2 rfl (by decide) _ _ _ rfl (ho2.out.alloc _) ⟨wa2.heap.size, 0, none⟩ 1 1 [.bool false] rfl rfl (by simpa using cells_new wa2 [.bool false] _) ?c2 ?c3 ?c4 ?c5 ?_)
              case c2 => simp [Value.oneCell']
              case c3 => unfold maxLen; omega
              case c4 => omega
              case c5 => simp; omega
              case _ =>
                intro u2 wb2 h5 hg5
                obtain ⟨hr2, hbb2⟩ := ho2.snoc (x := false) hba2 (Nat.le_refl _) h5 hg5
                clear h5 hg5 ho2 hba2 hza2
                replace dl := dl.below hbb2
                obtain ⟨AA2, cc2, rfl, hcc2, _, hss2⟩ := hr2.form
                clear hr2 hbb2
                have L2 := hid (show (l ++ [false]).length ≤ 4194304 by simp; omega)
                go_wp2_with fail
                refine (iGoodShare_any AA2 _ cc2 (l ++ [false]) _ (by simp) hss2 L2.out).mono ?_
                rintro e w' ⟨he, rfl⟩
                rw [H2.out] at he
                subst he
                go_wp2
                go_ret
                exact ⟨by first | rfl | (simp; done) | (simp; omega), dl.bel⟩
end Go.Proofs.Ythghmpcfiakjgac
