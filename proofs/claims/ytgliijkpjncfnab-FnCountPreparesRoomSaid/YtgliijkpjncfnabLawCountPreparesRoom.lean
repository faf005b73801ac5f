/-
  The walk of the law FnCountPreparesRoom: at every code it returns true and changes nothing that was there. Conditions: none.
-/
import Derived.Test.YtgliijkpjncfnabLawCa
import Derived.Test.YtgliijkpjncfnabLawFrame
import Derived.BigQuiet

namespace Go.Proofs.Ytgliijkpjncfnab
open Go.RowKit Cac

set_option maxHeartbeats 8000000 in
theorem walkCountPreparesRoom (a : Option Addr) (len cap : Nat) (zs : List Int) (w : World) (hn : zs.length = len) (hc : len ≤ cap) (hcc : cap ≤ maxLen) (h : Sees w w.heap.size a (byts zs)) (hz : ∀ y ∈ zs, 0 ≤ y ∧ y ≤ 255) :
    Calls Try.prog 7 #[.slice a len cap] w fun e w' => e = .returned (.bool true) ∧ Below w.heap.size w w' := by
  have HE := hid hn
  have HC := hid hcc
  have HZ := hid hz
  clear hn hcc hz
  by_cases hbig : 1048576 < len
  · go_enter Try.func7, Try.ntmps7
    go_wp2
    go_ret
    exact ⟨rfl, Below.refl _ _⟩
  · go_enter Try.func7, Try.ntmps7
    go_wp2_with fail
    refine (drawCountPrepares_any _ _ _ _ _ h HZ.out HE.out hc (by omega) HC.out).mono ?_
    rintro e w2 ⟨B, d, C, A, e, gs, rfl, dl, sg, hgl, hge⟩
    have H18 := hid (show gs.length ≤ 4194304 from Nat.le_trans hgl (by decide))
    have HGE := hid hge
    clear hge hgl
    obtain ⟨N, hN⟩ : ∃ N, N = prepV C gs := ⟨_, rfl⟩
    have EN : Hid (prepV C gs = N) := hid hN.symm
    have HN := hid hN
    clear hN
    by_cases h0 : N < 0
    · skip
      replace dl := dl.alloc (.cells #[.int .i64 C.r, .slice B C.n.length d] 25)
      replace sg := sg.alloc (.cells #[.int .i64 C.r, .slice B C.n.length d] 25)
      have pc := At.new w2 25 #[.int .i64 C.r, .slice B C.n.length d]
      obtain ⟨pc0, pc1, pcl, pcf⟩ := pc.two
      go_wp2_with fail
      refine (iCountPrepares_any C gs B A d e _ dl.sees sg.sees dl.cap dl.n4 H18.out).mono ?_
      rintro e w3 ⟨he, hb⟩
      rw [EN.out] at he
      subst he
      clear pc0 pc1 pcl pcf
      replace dl := dl.below hb
      replace sg := sg.below hb
      replace pc := pc.below hb pc.lt
      clear hb
      obtain ⟨pc0, pc1, pcl, pcf⟩ := pc.two
      go_wp2_with fail
      refine (sCountPrepares_any C gs B A d e _ dl.sees sg.sees dl.n4 H18.out).mono ?_
      rintro e w4 ⟨he, hb⟩
      rw [EN.out] at he
      subst he
      clear pc0 pc1 pcl pcf
      replace dl := dl.below hb
      replace sg := sg.below hb
      replace pc := pc.below hb pc.lt
      clear hb
      obtain ⟨pc0, pc1, pcl, pcf⟩ := pc.two
      go_wp2_with fail
      refine (sCountPrepares_any C gs B A d e _ dl.sees sg.sees dl.n4 H18.out).mono ?_
      rintro e w5 ⟨he, hb⟩
      rw [EN.out] at he
      subst he
      clear pc0 pc1 pcl pcf
      replace dl := dl.below hb
      replace sg := sg.below hb
      replace pc := pc.below hb pc.lt
      clear hb
      obtain ⟨pc0, pc1, pcl, pcf⟩ := pc.two
      go_wp2
      go_ret
      exact ⟨by simp, dl.bel⟩
    · skip
      have HN0 := hid (show 0 ≤ N by omega)
      have hn0 : ¬ N < 0 := h0
      clear h0
      have HVV := hid (prepV_ok (c := C) (l := gs) (by rw [EN.out]; exact HN0.out))
      by_cases h0 : C.r = 6
      · skip
        have hs6 : (C.r == 6) = true := by simp [h0]
        clear h0
        replace dl := dl.alloc (.cells #[.int .i64 C.r, .slice B C.n.length d] 25)
        replace sg := sg.alloc (.cells #[.int .i64 C.r, .slice B C.n.length d] 25)
        have pc := At.new w2 25 #[.int .i64 C.r, .slice B C.n.length d]
        obtain ⟨pc0, pc1, pcl, pcf⟩ := pc.two
        go_wp2_with fail
        refine (iCountPrepares_any C gs B A d e _ dl.sees sg.sees dl.cap dl.n4 H18.out).mono ?_
        rintro e w3 ⟨he, hb⟩
        rw [EN.out] at he
        subst he
        clear pc0 pc1 pcl pcf
        replace dl := dl.below hb
        replace sg := sg.below hb
        replace pc := pc.below hb pc.lt
        clear hb
        obtain ⟨pc0, pc1, pcl, pcf⟩ := pc.two
        go_wp2_with fail
        refine (sCountPrepares_any C gs B A d e _ dl.sees sg.sees dl.n4 H18.out).mono ?_
        rintro e w4 ⟨he, hb⟩
        rw [EN.out] at he
        subst he
        clear pc0 pc1 pcl pcf
        replace dl := dl.below hb
        replace sg := sg.below hb
        replace pc := pc.below hb pc.lt
        clear hb
        obtain ⟨pc0, pc1, pcl, pcf⟩ := pc.two
        go_wp2_with fail
        refine (sCountPrepares_any C gs B A d e _ dl.sees sg.sees dl.n4 H18.out).mono ?_
        rintro e w5 ⟨he, hb⟩
        rw [EN.out] at he
        subst he
        clear pc0 pc1 pcl pcf
        replace dl := dl.below hb
        replace sg := sg.below hb
        replace pc := pc.below hb pc.lt
        clear hb
        obtain ⟨pc0, pc1, pcl, pcf⟩ := pc.two
        go_wp2
        go_ret
        exact ⟨by simp, dl.bel⟩
      · skip
        have hs6 : (C.r == 6) = false := beq_eq_false_iff_ne.2 h0
        have H6 := hid h0
        clear h0
        replace dl := dl.alloc (.cells #[.int .i64 C.r, .slice B C.n.length d] 25)
        replace sg := sg.alloc (.cells #[.int .i64 C.r, .slice B C.n.length d] 25)
        have pc := At.new w2 25 #[.int .i64 C.r, .slice B C.n.length d]
        obtain ⟨pc0, pc1, pcl, pcf⟩ := pc.two
        go_wp2_with fail
        refine (iCountPrepares_any C gs B A d e _ dl.sees sg.sees dl.cap dl.n4 H18.out).mono ?_
        rintro e w3 ⟨he, hb⟩
        rw [EN.out] at he
        subst he
        clear pc0 pc1 pcl pcf
        replace dl := dl.below hb
        replace sg := sg.below hb
        replace pc := pc.below hb pc.lt
        clear hb
        obtain ⟨pc0, pc1, pcl, pcf⟩ := pc.two
        go_wp2_with fail
        refine (sCountPrepares_any C gs B A d e _ dl.sees sg.sees dl.n4 H18.out).mono ?_
        rintro e w4 ⟨he, hb⟩
        rw [EN.out] at he
        subst he
        clear pc0 pc1 pcl pcf
        replace dl := dl.below hb
        replace sg := sg.below hb
        replace pc := pc.below hb pc.lt
        clear hb
        obtain ⟨M, hM⟩ : ∃ M, M = prepV ⟨C.r + 1, C.n⟩ gs := ⟨_, rfl⟩
        have EM : Hid (prepV ⟨C.r + 1, C.n⟩ gs = M) := hid hM.symm
        have hm := prepV_more HVV.out.1 HVV.out.2 H6.out
        rw [show more C = ⟨C.r + 1, C.n⟩ from rfl, EM.out, EN.out] at hm
        obtain ⟨hm0, hm1⟩ := hm
        have HM := hid hM
        clear hM
        have hcr : IntKind.i64.wrap (C.r + 1) = C.r + 1 := by have := cache_room HVV.out.1; rw [IntKind.wrap_i64]; omega
        obtain ⟨pc0, pc1, pcl, pcf⟩ := pc.two
        go_wp2_with fail
        refine (iCountPrepares_any ⟨C.r + 1, C.n⟩ gs B A d e _ dl.sees sg.sees dl.cap dl.n4 H18.out).mono ?_
        rintro e w5 ⟨he, hb⟩
        rw [EM.out] at he
        subst he
        clear pc0 pc1 pcl pcf
        replace dl := dl.below hb
        replace sg := sg.below hb
        replace pc := pc.below hb pc.lt
        clear hb
        obtain ⟨pc0, pc1, pcl, pcf⟩ := pc.two
        go_wp2
        go_ret
        exact ⟨by simp, dl.bel⟩
end Go.Proofs.Ytgliijkpjncfnab
