/-
  The walk of the law FnCountPreparesSame: at every code it returns true and changes nothing that was there. Conditions: none.
-/
import Derived.Test.YtgliijkpjncfnabLawCa
import Derived.Test.YtgliijkpjncfnabLawFrame
import Derived.BigQuiet

namespace Go.Proofs.Ytgliijkpjncfnab
open Go.RowKit Cac

set_option maxHeartbeats 8000000 in
theorem walkCountPreparesSame (a : Option Addr) (len cap : Nat) (zs : List Int) (w : World) (hn : zs.length = len) (hc : len ≤ cap) (hcc : cap ≤ maxLen) (h : Sees w w.heap.size a (byts zs)) (hz : ∀ y ∈ zs, 0 ≤ y ∧ y ≤ 255) :
    Calls Try.prog 8 #[.slice a len cap] w fun e w' => e = .returned (.bool true) ∧ Below w.heap.size w w' := by
  have HE := hid hn
  have HC := hid hcc
  have HZ := hid hz
  clear hn hcc hz
  by_cases hbig : 1048576 < len
  · go_enter Try.func8, Try.ntmps8
    go_wp2
    go_ret
    exact ⟨rfl, Below.refl _ _⟩
  · go_enter Try.func8, Try.ntmps8
    go_wp2_with fail
    refine (drawCountPrepares_any _ _ _ _ _ h HZ.out HE.out hc (by omega) HC.out).mono ?_
    rintro e w2 ⟨B, d, C, A, e, gs, rfl, dl, sg, hgl, hge⟩
    have H18 := hid (show gs.length ≤ 4194304 from Nat.le_trans hgl (by decide))
    have HGE := hid hge
    clear hge hgl
    obtain ⟨N, hN⟩ : ∃ N, N = prepV C gs := ⟨_, rfl⟩
    have EN : Hid (prepV C gs = N) := hid hN.symm
    have HN := hid hN
    clear hN
    by_cases h0 : N < 0
    · skip
      replace dl := dl.alloc (.cells #[.int .i64 C.r, .slice B C.n.length d] 25)
      replace sg := sg.alloc (.cells #[.int .i64 C.r, .slice B C.n.length d] 25)
      have pc := At.new w2 25 #[.int .i64 C.r, .slice B C.n.length d]
      obtain ⟨pc0, pc1, pcl, pcf⟩ := pc.two
      go_wp2_with fail
      refine (iCountPrepares_any C gs B A d e _ dl.sees sg.sees dl.cap dl.n4 H18.out).mono ?_
      rintro e w3 ⟨he, hb⟩
      rw [EN.out] at he
      subst he
      clear pc0 pc1 pcl pcf
      replace dl := dl.below hb
      replace sg := sg.below hb
      replace pc := pc.below hb pc.lt
      clear hb
      obtain ⟨pc0, pc1, pcl, pcf⟩ := pc.two
      go_wp2_with fail
      refine (sCountPrepares_any C gs B A d e _ dl.sees sg.sees dl.n4 H18.out).mono ?_
      rintro e w4 ⟨he, hb⟩
      rw [EN.out] at he
      subst he
      clear pc0 pc1 pcl pcf
      replace dl := dl.below hb
      replace sg := sg.below hb
      replace pc := pc.below hb pc.lt
      clear hb
      obtain ⟨pc0, pc1, pcl, pcf⟩ := pc.two
      go_wp2_with fail
      refine (sCountPrepares_any C gs B A d e _ dl.sees sg.sees dl.n4 H18.out).mono ?_
      rintro e w5 ⟨he, hb⟩
      rw [EN.out] at he
      subst he
      clear pc0 pc1 pcl pcf
      replace dl := dl.below hb
      replace sg := sg.below hb
      replace pc := pc.below hb pc.lt
      clear hb
      obtain ⟨pc0, pc1, pcl, pcf⟩ := pc.two
      go_wp2
      go_ret
      exact ⟨by simp, dl.bel⟩
    · skip
      have HN0 := hid (show 0 ≤ N by omega)
      have hn0 : ¬ N < 0 := h0
      clear h0
      have HVV := hid (prepV_ok (c := C) (l := gs) (by rw [EN.out]; exact HN0.out))
      by_cases h0 : C.r = 0
      · skip
        have hs6 : (C.r == 0) = true := by simp [h0]
        clear h0
        replace dl := dl.alloc (.cells #[.int .i64 C.r, .slice B C.n.length d] 25)
        replace sg := sg.alloc (.cells #[.int .i64 C.r, .slice B C.n.length d] 25)
        have pc := At.new w2 25 #[.int .i64 C.r, .slice B C.n.length d]
        obtain ⟨pc0, pc1, pcl, pcf⟩ := pc.two
        go_wp2_with fail
        refine (iCountPrepares_any C gs B A d e _ dl.sees sg.sees dl.cap dl.n4 H18.out).mono ?_
        rintro e w3 ⟨he, hb⟩
        rw [EN.out] at he
        subst he
        clear pc0 pc1 pcl pcf
        replace dl := dl.below hb
        replace sg := sg.below hb
        replace pc := pc.below hb pc.lt
        clear hb
        obtain ⟨pc0, pc1, pcl, pcf⟩ := pc.two
        go_wp2_with fail
        refine (sCountPrepares_any C gs B A d e _ dl.sees sg.sees dl.n4 H18.out).mono ?_
        rintro e w4 ⟨he, hb⟩
        rw [EN.out] at he
        subst he
        clear pc0 pc1 pcl pcf
        replace dl := dl.below hb
        replace sg := sg.below hb
        replace pc := pc.below hb pc.lt
        clear hb
        obtain ⟨pc0, pc1, pcl, pcf⟩ := pc.two
        go_wp2_with fail
        refine (sCountPrepares_any C gs B A d e _ dl.sees sg.sees dl.n4 H18.out).mono ?_
        rintro e w5 ⟨he, hb⟩
        rw [EN.out] at he
        subst he
        clear pc0 pc1 pcl pcf
        replace dl := dl.below hb
        replace sg := sg.below hb
        replace pc := pc.below hb pc.lt
        clear hb
        obtain ⟨pc0, pc1, pcl, pcf⟩ := pc.two
        go_wp2
        go_ret
        exact ⟨by simp, dl.bel⟩
      · skip
        have hs6 : (C.r == 0) = false := beq_eq_false_iff_ne.2 h0
        have H6 := hid h0
        clear h0
        replace dl := dl.alloc (.cells #[.int .i64 C.r, .slice B C.n.length d] 25)
        replace sg := sg.alloc (.cells #[.int .i64 C.r, .slice B C.n.length d] 25)
        have pc := At.new w2 25 #[.int .i64 C.r, .slice B C.n.length d]
        obtain ⟨pc0, pc1, pcl, pcf⟩ := pc.two
        go_wp2_with fail
        refine (iCountPrepares_any C gs B A d e _ dl.sees sg.sees dl.cap dl.n4 H18.out).mono ?_
        rintro e w3 ⟨he, hb⟩
        rw [EN.out] at he
        subst he
        clear pc0 pc1 pcl pcf
        replace dl := dl.below hb
        replace sg := sg.below hb
        replace pc := pc.below hb pc.lt
        clear hb
        obtain ⟨pc0, pc1, pcl, pcf⟩ := pc.two
        go_wp2_with fail
        refine (sCountPrepares_any C gs B A d e _ dl.sees sg.sees dl.n4 H18.out).mono ?_
        rintro e w4 ⟨he, hb⟩
        rw [EN.out] at he
        subst he
        clear pc0 pc1 pcl pcf
        replace dl := dl.below hb
        replace sg := sg.below hb
        replace pc := pc.below hb pc.lt
        clear hb
        have hk := prepV_same HVV.out.1 H6.out
        have hz := hid (prepV_nil HVV.out.1)
        obtain ⟨b, hb⟩ : ∃ b, b = mem C.n 4 := ⟨_, rfl⟩
        rw [← hb] at hk
        have HB := hid hb.symm
        clear hb
        obtain ⟨K, hK⟩ : ∃ K, K = prepV C [4, 4, 4] := ⟨_, rfl⟩
        have EK : Hid (prepV C [4, 4, 4] = K) := hid hK.symm
        rw [EK.out] at hk
        clear hK
        have hk1 : K ≤ 1 := by rw [hk]; split <;> decide
        have hk2 : (K == 0) = b := by rw [hk]; cases b <;> rfl
        clear hk
        have H3 := hid (show ([4, 4, 4] : List Int).length ≤ 4194304 by decide)
        have p4 := At.new w4 3 #[.int .i64 4, .int .i64 4, .int .i64 4]
        have s4 := sees_at (l := [4, 4, 4]) p4 rfl
        clear p4
        obtain ⟨u0, u1, ul, uf⟩ := pc.two
        replace dl := dl.alloc (.cells #[.int .i64 4, .int .i64 4, .int .i64 4] 3)
        replace sg := sg.alloc (.cells #[.int .i64 4, .int .i64 4, .int .i64 4] 3)
        replace pc := pc.alloc (.cells #[.int .i64 4, .int .i64 4, .int .i64 4] 3)
        obtain ⟨pc0, pc1, pcl, pcf⟩ := pc.two
        go_wp2_with fail
        refine (iCountPrepares_any C [4, 4, 4] B (some ⟨w4.heap.size, 0, none⟩) d 3 _ dl.sees s4 dl.cap dl.n4 H3.out).mono ?_
        rintro e w5 ⟨he, hb⟩
        rw [EK.out] at he
        subst he
        clear pc0 pc1 pcl pcf
        replace dl := dl.below hb
        replace sg := sg.below hb
        replace pc := pc.below hb pc.lt
        clear hb
        clear s4 u0 u1 ul uf
        obtain ⟨pc0, pc1, pcl, pcf⟩ := pc.two
        go_wp2_with fail
        refine (lisIn_any B d C.n 4 _ dl.sees.names (Nat.le_trans dl.n4 (by decide))).mono ?_
        rintro e w' ⟨he, rfl⟩
        rw [show memB C.n 4 = b from HB.out] at he
        subst he
        clear pc0 pc1 pcl pcf
        obtain ⟨pc0, pc1, pcl, pcf⟩ := pc.two
        go_wp2_with fail
        refine (iCountPrepares_any C [] B none d 0 _ dl.sees Sees.nil dl.cap dl.n4 (Nat.zero_le _)).mono ?_
        rintro e w6 ⟨he, hb⟩
        rw [hz.out] at he
        subst he
        clear pc0 pc1 pcl pcf
        replace dl := dl.below hb
        replace sg := sg.below hb
        replace pc := pc.below hb pc.lt
        clear hb
        obtain ⟨pc0, pc1, pcl, pcf⟩ := pc.two
        go_wp2
        go_ret
        exact ⟨by simp, dl.bel⟩
end Go.Proofs.Ytgliijkpjncfnab
