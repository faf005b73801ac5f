/-
  What the model's line answers. Condition: the desk's pool is valid and its lists lie in memory.
-/
import Derived.Test.YtehdbllpiokbnaaSesB
import Derived.Test.YtehdbllpiokbnaaSesC

namespace Go.Proofs.Ytehdbllpiokbnaa
open Go.RowKit Txt Pol Ses

set_option maxHeartbeats 16000000 in
set_option maxRecDepth 16384 in
theorem dLine_any (p : Pl) (A1 A2 A3 : Option Addr) (c1 c2 c3 : Nat) (D : Nat) (l : List UInt8) (F : Nat → Prop) (w : World) (hD : At w D 84 #[.int .i64 p.mx, .slice A1 p.idle.length c1, .slice A2 p.held.length c2, .slice A3 p.wait.length c3]) (hP : PolF w F A1 A2 A3 c1 c2 c3 p) (hF : ∀ b, F b → b < w.heap.size) (hFD : F D) (hok : Ok p) (hl : l.length ≤ 4194304) :
    Calls Try.prog 62 #[.pointer (some ⟨D, 0, none⟩), tx l] w (DeskAns F (rLin p l) D w) := by
  have hDl := hD.lt
  have cs := fun w => splitAt_any l 32 32 w rfl hl
  unfold tx at cs
  have CS := hid cs
  clear cs
  have hlb : ∀ {c : UInt8}, True := fun {_} => trivial
  clear hlb
  by_cases h2 : (spl 32 l).length = 2
  · skip
    obtain ⟨a, b, e⟩ := two_of h2
    have HT := hid e
    have la : a.length ≤ 4194304 := Nat.le_trans (spl_lens (c := 32) (s := l) (by rw [e]; simp)) hl
    have lb : b.length ≤ 4194304 := Nat.le_trans (spl_lens (c := 32) (s := l) (by rw [e]; simp)) hl
    have HER := hid (rLin_two (p := p) e)
    have hb5 : (l == [112, 111, 111, 108]) = false := name_ne (by rintro rfl; rw [show ([112, 111, 111, 108] : List UInt8) = nPoo from rfl, spl_pool] at h2; simp at h2)
    clear e h2
    by_cases h0 : a = nAcq
    · skip
      obtain ⟨⟨Rp, Rt⟩, hR⟩ : ∃ R, R = rAcq p (num b) := ⟨_, rfl⟩
      have ER : Hid (rLin p l = (Rp, Rt)) := hid (by rw [HER.out]; unfold rCmd; rw [if_pos h0, hR])
      have b0 : (a == [97, 99, 113, 117, 105, 114, 101]) = true := name_eq h0
      clear h0 HER hl
      unfold tx
      go_enter Try.func62, Try.ntmps62
      go_wp2_with fail
      with_reducible refine (CS.out _).mono ?_
      rintro e w1 ⟨v, rfl, ho, hb1⟩
      rw [HT.out] at ho
      obtain ⟨Aw, cw, rfl, _, _, _⟩ := OwnS.form ho
      rw [show ([a, b] : List (List UInt8)).length = 2 from rfl] at ho ⊢
      obtain ⟨kw, ow, rfl, hkw, q0⟩ := ho.sees.word (k := 0) (by simp)
      rw [Nat.add_zero, show ([a, b] : List (List UInt8))[0] = a from rfl] at q0
      obtain ⟨_, _, e9, _, q1⟩ := ho.sees.word (k := 1) (by simp)
      injection e9 with e9
      injection e9 with e8 e9
      subst e8 e9
      rw [show ([a, b] : List (List UInt8))[1] = b from rfl] at q1
      have hD1 := hD.below hb1 hDl
      have hP1 := hP.below hb1
      have hF1 : ∀ b, F b → b < w1.heap.size := fun b e => Nat.lt_of_lt_of_le (hF b e) hb1.size
      have hG1 := grown_of_below hb1 (some D)
      clear ho CS
      obtain ⟨y0, y1, y2, y3, yl, yf⟩ := fourS hD1
      have cA := dAcquire_any p A1 A2 A3 c1 c2 c3 D b F w1 hD1 hP1 hF1 hFD hok lb
      rw [← hR] at cA
      unfold tx at cA
      clear hR
      go_wp2_with fail
      refine cA.mono ?_
      rintro e w2 ⟨B1, B2, B3, d1, d2, d3, he, hd, hpf, hg⟩
      replace he : e = .returned (tx Rt) := he
      subst he
      unfold tx
      clear cA y0 y1 y2 y3 yl yf q0 q1
      go_wp2
      go_ret
      rw [ER.out]
      exact ⟨B1, B2, B3, d1, d2, d3, rfl, hd, hpf, hG1.trans hg⟩
    by_cases h1 : a = nRel
    · skip
      obtain ⟨⟨Rp, Rt⟩, hR⟩ : ∃ R, R = rRel p (num b) := ⟨_, rfl⟩
      have ER : Hid (rLin p l = (Rp, Rt)) := hid (by rw [HER.out]; unfold rCmd; rw [if_neg h0, if_pos h1, hR])
      have b0 : (a == [97, 99, 113, 117, 105, 114, 101]) = false := name_ne h0
      have b1 : (a == [114, 101, 108, 101, 97, 115, 101]) = true := name_eq h1
      clear h0 h1 HER hl
      unfold tx
      go_enter Try.func62, Try.ntmps62
      go_wp2_with fail
      with_reducible refine (CS.out _).mono ?_
      rintro e w1 ⟨v, rfl, ho, hb1⟩
      rw [HT.out] at ho
      obtain ⟨Aw, cw, rfl, _, _, _⟩ := OwnS.form ho
      rw [show ([a, b] : List (List UInt8)).length = 2 from rfl] at ho ⊢
      obtain ⟨kw, ow, rfl, hkw, q0⟩ := ho.sees.word (k := 0) (by simp)
      rw [Nat.add_zero, show ([a, b] : List (List UInt8))[0] = a from rfl] at q0
      obtain ⟨_, _, e9, _, q1⟩ := ho.sees.word (k := 1) (by simp)
      injection e9 with e9
      injection e9 with e8 e9
      subst e8 e9
      rw [show ([a, b] : List (List UInt8))[1] = b from rfl] at q1
      have hD1 := hD.below hb1 hDl
      have hP1 := hP.below hb1
      have hF1 : ∀ b, F b → b < w1.heap.size := fun b e => Nat.lt_of_lt_of_le (hF b e) hb1.size
      have hG1 := grown_of_below hb1 (some D)
      clear ho CS
      obtain ⟨y0, y1, y2, y3, yl, yf⟩ := fourS hD1
      have cA := dRelease_any p A1 A2 A3 c1 c2 c3 D b F w1 hD1 hP1 hF1 hFD hok lb
      rw [← hR] at cA
      unfold tx at cA
      clear hR
      go_wp2_with fail
      refine cA.mono ?_
      rintro e w2 ⟨B1, B2, B3, d1, d2, d3, he, hd, hpf, hg⟩
      replace he : e = .returned (tx Rt) := he
      subst he
      unfold tx
      clear cA y0 y1 y2 y3 yl yf q0 q1
      go_wp2
      go_ret
      rw [ER.out]
      exact ⟨B1, B2, B3, d1, d2, d3, rfl, hd, hpf, hG1.trans hg⟩
    by_cases h2 : a = nCls
    · skip
      obtain ⟨⟨Rp, Rt⟩, hR⟩ : ∃ R, R = rCls p (num b) := ⟨_, rfl⟩
      have ER : Hid (rLin p l = (Rp, Rt)) := hid (by rw [HER.out]; unfold rCmd; rw [if_neg h0, if_neg h1, if_pos h2, hR])
      have b0 : (a == [97, 99, 113, 117, 105, 114, 101]) = false := name_ne h0
      have b1 : (a == [114, 101, 108, 101, 97, 115, 101]) = false := name_ne h1
      have b2 : (a == [99, 108, 111, 115, 101]) = true := name_eq h2
      clear h0 h1 h2 HER hl
      unfold tx
      go_enter Try.func62, Try.ntmps62
      go_wp2_with fail
      with_reducible refine (CS.out _).mono ?_
      rintro e w1 ⟨v, rfl, ho, hb1⟩
      rw [HT.out] at ho
      obtain ⟨Aw, cw, rfl, _, _, _⟩ := OwnS.form ho
      rw [show ([a, b] : List (List UInt8)).length = 2 from rfl] at ho ⊢
      obtain ⟨kw, ow, rfl, hkw, q0⟩ := ho.sees.word (k := 0) (by simp)
      rw [Nat.add_zero, show ([a, b] : List (List UInt8))[0] = a from rfl] at q0
      obtain ⟨_, _, e9, _, q1⟩ := ho.sees.word (k := 1) (by simp)
      injection e9 with e9
      injection e9 with e8 e9
      subst e8 e9
      rw [show ([a, b] : List (List UInt8))[1] = b from rfl] at q1
      have hD1 := hD.below hb1 hDl
      have hP1 := hP.below hb1
      have hF1 : ∀ b, F b → b < w1.heap.size := fun b e => Nat.lt_of_lt_of_le (hF b e) hb1.size
      have hG1 := grown_of_below hb1 (some D)
      clear ho CS
      obtain ⟨y0, y1, y2, y3, yl, yf⟩ := fourS hD1
      have cA := dClose_any p A1 A2 A3 c1 c2 c3 D b F w1 hD1 hP1 hF1 hFD hok lb
      rw [← hR] at cA
      unfold tx at cA
      clear hR
      go_wp2_with fail
      refine cA.mono ?_
      rintro e w2 ⟨B1, B2, B3, d1, d2, d3, he, hd, hpf, hg⟩
      replace he : e = .returned (tx Rt) := he
      subst he
      unfold tx
      clear cA y0 y1 y2 y3 yl yf q0 q1
      go_wp2
      go_ret
      rw [ER.out]
      exact ⟨B1, B2, B3, d1, d2, d3, rfl, hd, hpf, hG1.trans hg⟩
    by_cases h3 : a = nSiz
    · skip
      obtain ⟨⟨Rp, Rt⟩, hR⟩ : ∃ R, R = rSiz p (num b) := ⟨_, rfl⟩
      have ER : Hid (rLin p l = (Rp, Rt)) := hid (by rw [HER.out]; unfold rCmd; rw [if_neg h0, if_neg h1, if_neg h2, if_pos h3, hR])
      have b0 : (a == [97, 99, 113, 117, 105, 114, 101]) = false := name_ne h0
      have b1 : (a == [114, 101, 108, 101, 97, 115, 101]) = false := name_ne h1
      have b2 : (a == [99, 108, 111, 115, 101]) = false := name_ne h2
      have b3 : (a == [115, 105, 122, 101]) = true := name_eq h3
      clear h0 h1 h2 h3 HER hl
      unfold tx
      go_enter Try.func62, Try.ntmps62
      go_wp2_with fail
      with_reducible refine (CS.out _).mono ?_
      rintro e w1 ⟨v, rfl, ho, hb1⟩
      rw [HT.out] at ho
      obtain ⟨Aw, cw, rfl, _, _, _⟩ := OwnS.form ho
      rw [show ([a, b] : List (List UInt8)).length = 2 from rfl] at ho ⊢
      obtain ⟨kw, ow, rfl, hkw, q0⟩ := ho.sees.word (k := 0) (by simp)
      rw [Nat.add_zero, show ([a, b] : List (List UInt8))[0] = a from rfl] at q0
      obtain ⟨_, _, e9, _, q1⟩ := ho.sees.word (k := 1) (by simp)
      injection e9 with e9
      injection e9 with e8 e9
      subst e8 e9
      rw [show ([a, b] : List (List UInt8))[1] = b from rfl] at q1
      have hD1 := hD.below hb1 hDl
      have hP1 := hP.below hb1
      have hF1 : ∀ b, F b → b < w1.heap.size := fun b e => Nat.lt_of_lt_of_le (hF b e) hb1.size
      have hG1 := grown_of_below hb1 (some D)
      clear ho CS
      obtain ⟨y0, y1, y2, y3, yl, yf⟩ := fourS hD1
      have cA := dSize_any p A1 A2 A3 c1 c2 c3 D b F w1 hD1 hP1 hF1 hFD hok lb
      rw [← hR] at cA
      unfold tx at cA
      clear hR
      go_wp2_with fail
      refine cA.mono ?_
      rintro e w2 ⟨B1, B2, B3, d1, d2, d3, he, hd, hpf, hg⟩
      replace he : e = .returned (tx Rt) := he
      subst he
      unfold tx
      clear cA y0 y1 y2 y3 yl yf q0 q1
      go_wp2
      go_ret
      rw [ER.out]
      exact ⟨B1, B2, B3, d1, d2, d3, rfl, hd, hpf, hG1.trans hg⟩
    by_cases h4 : a = nHel
    · skip
      obtain ⟨⟨Rp, Rt⟩, hR⟩ : ∃ R, R = rHel p (num b) := ⟨_, rfl⟩
      have ER : Hid (rLin p l = (Rp, Rt)) := hid (by rw [HER.out]; unfold rCmd; rw [if_neg h0, if_neg h1, if_neg h2, if_neg h3, if_pos h4, hR])
      have b0 : (a == [97, 99, 113, 117, 105, 114, 101]) = false := name_ne h0
      have b1 : (a == [114, 101, 108, 101, 97, 115, 101]) = false := name_ne h1
      have b2 : (a == [99, 108, 111, 115, 101]) = false := name_ne h2
      have b3 : (a == [115, 105, 122, 101]) = false := name_ne h3
      have b4 : (a == [104, 101, 108, 100]) = true := name_eq h4
      clear h0 h1 h2 h3 h4 HER hl
      unfold tx
      go_enter Try.func62, Try.ntmps62
      go_wp2_with fail
      with_reducible refine (CS.out _).mono ?_
      rintro e w1 ⟨v, rfl, ho, hb1⟩
      rw [HT.out] at ho
      obtain ⟨Aw, cw, rfl, _, _, _⟩ := OwnS.form ho
      rw [show ([a, b] : List (List UInt8)).length = 2 from rfl] at ho ⊢
      obtain ⟨kw, ow, rfl, hkw, q0⟩ := ho.sees.word (k := 0) (by simp)
      rw [Nat.add_zero, show ([a, b] : List (List UInt8))[0] = a from rfl] at q0
      obtain ⟨_, _, e9, _, q1⟩ := ho.sees.word (k := 1) (by simp)
      injection e9 with e9
      injection e9 with e8 e9
      subst e8 e9
      rw [show ([a, b] : List (List UInt8))[1] = b from rfl] at q1
      have hD1 := hD.below hb1 hDl
      have hP1 := hP.below hb1
      have hF1 : ∀ b, F b → b < w1.heap.size := fun b e => Nat.lt_of_lt_of_le (hF b e) hb1.size
      have hG1 := grown_of_below hb1 (some D)
      clear ho CS
      obtain ⟨L1, L2, L3⟩ := ok_2 hok
      obtain ⟨X, hX⟩ : ∃ X, X = heldBy p (num b) := ⟨_, rfl⟩
      have hXl := heldBy_len p (num b)
      have HXR := hid (held_range (n := num b) hok)
      rw [← hX] at hXl HXR
      have HX := hid hX.symm
      have HV : Hid (nums X = Rt) := hid (by rw [hX]; exact (congrArg Prod.snd hR).symm)
      have hRp : Rp = p := congrArg Prod.fst hR
      subst hRp
      have hX4 : X.length ≤ 4194304 := by omega
      clear hX hR hok
      obtain ⟨m, hm⟩ : ∃ m, m = num b := ⟨_, rfl⟩
      have c0 := fun w => parseInt_any b w lb
      unfold tx at c0
      rw [← hm] at c0 HX
      have C0 := hid c0
      clear c0 hm
      obtain ⟨y0, y1, y2, y3, yl, yf⟩ := fourS hD1
      have hdd := (Below.refl w1.heap.size w1).drew
      have h1 := hP1.sees
      go_wp2_with fail
      go_region_held3 (fun w' => w'.cell? ⟨D, 0, none⟩ = some (.int .i64 Rp.mx) ∧ w'.cell? ⟨D, 1, none⟩ = some (.slice A1 Rp.idle.length c1) ∧ w'.cell? ⟨D, 2, none⟩ = some (.slice A2 Rp.held.length c2) ∧ w'.cell? ⟨D, 3, none⟩ = some (.slice A3 Rp.wait.length c3) ∧ w'.cell? ⟨kw, ow + 1, none⟩ = some (.string (ByteArray.mk b.toArray)))
        (first | with_reducible exact ⟨y0, y1, y2, y3, q1⟩ | with_reducible exact ⟨r0, r1, r2, r3, s1⟩ | with_reducible exact ⟨u0, u1, u2, u3, t1⟩ | with_reducible exact ⟨v0, v1, v2, v3, x1⟩ | go_keep)
        (first
          | (go_at_call 46; (with_reducible refine (C0.out _).mono ?_); rintro e wa ⟨rfl, hba⟩; have hWa := hdd.trans (hba.mono hdd.size); obtain ⟨r0, r1, r2, r3, rl, rf⟩ := fourS (hD1.below hWa hD1.lt); have s1 := ((below_cell hWa).1 kw (ow + 1) hkw).trans q1)
          | (go_at_call 81; (with_reducible refine (sHeldBy_any Rp A1 A2 A3 c1 c2 c3 m wa (h1.on hWa) L1.out L2.out L3.out).mono ?_); rintro e wb ⟨v, rfl, hh, hbb⟩; rw [HX.out] at hh; obtain ⟨Ax, cx, rfl, hsx⟩ := hh.form; have hWb := hWa.trans (hbb.mono hWa.size); obtain ⟨u0, u1, u2, u3, ul, uf⟩ := fourS (hD1.below hWb hD1.lt); have t1 := ((below_cell hWb).1 kw (ow + 1) hkw).trans q1)
          | (go_at_call 68; (with_reducible refine (listText_any Ax cx X wb hsx hX4 HXR.out).mono ?_); rintro e wc ⟨he, hbc⟩; rw [HV.out] at he; subst he; unfold tx; have hWc := hWb.trans (hbc.mono hWb.size); obtain ⟨v0, v1, v2, v3, vl, vf⟩ := fourS (hD1.below hWc hD1.lt); have x1 := ((below_cell hWc).1 kw (ow + 1) hkw).trans q1)
          | fail)
      all_goals
        go_wp2
        go_ret
        rw [ER.out]
        exact ⟨A1, A2, A3, c1, c2, c3, rfl, hD1.below hWc hD1.lt, hP1.below hWc, hG1.trans (grown_of_below hWc (some D))⟩
    · skip
      have ER : Hid (rLin p l = (p, tWhat)) := hid (by rw [HER.out]; unfold rCmd; rw [if_neg h0, if_neg h1, if_neg h2, if_neg h3, if_neg h4])
      have b0 : (a == [97, 99, 113, 117, 105, 114, 101]) = false := name_ne h0
      have b1 : (a == [114, 101, 108, 101, 97, 115, 101]) = false := name_ne h1
      have b2 : (a == [99, 108, 111, 115, 101]) = false := name_ne h2
      have b3 : (a == [115, 105, 122, 101]) = false := name_ne h3
      have b4 : (a == [104, 101, 108, 100]) = false := name_ne h4
      clear h0 h1 h2 h3 h4 HER hl hok
      unfold tx
      go_enter Try.func62, Try.ntmps62
      go_wp2_with fail
      with_reducible refine (CS.out _).mono ?_
      rintro e w1 ⟨v, rfl, ho, hb1⟩
      rw [HT.out] at ho
      obtain ⟨Aw, cw, rfl, _, _, _⟩ := OwnS.form ho
      rw [show ([a, b] : List (List UInt8)).length = 2 from rfl] at ho ⊢
      obtain ⟨kw, ow, rfl, hkw, q0⟩ := ho.sees.word (k := 0) (by simp)
      rw [Nat.add_zero, show ([a, b] : List (List UInt8))[0] = a from rfl] at q0
      obtain ⟨_, _, e9, _, q1⟩ := ho.sees.word (k := 1) (by simp)
      injection e9 with e9
      injection e9 with e8 e9
      subst e8 e9
      rw [show ([a, b] : List (List UInt8))[1] = b from rfl] at q1
      have hD1 := hD.below hb1 hDl
      have hP1 := hP.below hb1
      have hF1 : ∀ b, F b → b < w1.heap.size := fun b e => Nat.lt_of_lt_of_le (hF b e) hb1.size
      have hG1 := grown_of_below hb1 (some D)
      clear ho CS
      obtain ⟨y0, y1, y2, y3, yl, yf⟩ := fourS hD1
      go_wp2
      go_ret
      rw [ER.out]
      exact ⟨A1, A2, A3, c1, c2, c3, rfl, hD1, hP1, hG1⟩
  by_cases hpl : l = nPoo
  · skip
    subst hpl
    have HT := hid spl_pool
    have hokB := okB_iff.2 hok
    obtain ⟨L1, L2, L3⟩ := ok_2 hok
    have HV := hid (show fmtP p = poT p from fmtP_yes hokB)
    have HO := hid hokB
    obtain ⟨V, hV⟩ : ∃ V, V = poT p := ⟨_, rfl⟩
    rw [← hV] at HV
    have ER : Hid (rLin p nPoo = (p, V)) := hid (by rw [rLin_pool, hV])
    clear hV h2 hokB hok hl
    have b0 : (nPoo == [97, 99, 113, 117, 105, 114, 101]) = false := by decide
    have b1 : (nPoo == [114, 101, 108, 101, 97, 115, 101]) = false := by decide
    have b2 : (nPoo == [99, 108, 111, 115, 101]) = false := by decide
    have b3 : (nPoo == [115, 105, 122, 101]) = false := by decide
    have b4 : (nPoo == [104, 101, 108, 100]) = false := by decide
    have hb5 : (nPoo == [112, 111, 111, 108]) = true := by decide
    unfold tx
    go_enter Try.func62, Try.ntmps62
    go_wp2_with fail
    with_reducible refine (CS.out _).mono ?_
    rintro e w1 ⟨v, rfl, ho, hb1⟩
    rw [HT.out] at ho
    obtain ⟨Aw, cw, rfl, _, _, _⟩ := OwnS.form ho
    rw [show ([nPoo] : List (List UInt8)).length = 1 from rfl] at ho ⊢
    obtain ⟨kw, ow, rfl, hkw, q0⟩ := ho.sees.word (k := 0) (by simp)
    rw [Nat.add_zero, show ([nPoo] : List (List UInt8))[0] = nPoo from rfl] at q0
    have hD1 := hD.below hb1 hDl
    have hP1 := hP.below hb1
    have hF1 : ∀ b, F b → b < w1.heap.size := fun b e => Nat.lt_of_lt_of_le (hF b e) hb1.size
    have hG1 := grown_of_below hb1 (some D)
    clear ho CS
    obtain ⟨y0, y1, y2, y3, yl, yf⟩ := fourS hD1
    go_wp2_with fail
    with_reducible refine (sformatPool_any p A1 A2 A3 c1 c2 c3 w1 hP1.sees L1.out L2.out L3.out HO.out).mono ?_
    rintro e w2 ⟨he, hb2⟩
    rw [HV.out] at he
    subst he
    unfold tx
    go_wp2
    go_ret
    rw [ER.out]
    exact ⟨A1, A2, A3, c1, c2, c3, rfl, hD1.below hb2 hD1.lt, hP1.below hb2, hG1.trans (grown_of_below hb2 (some D))⟩
  · skip
    have ER := hid (rLin_what (p := p) h2 hpl)
    have hb5 : (l == [112, 111, 111, 108]) = false := name_ne hpl
    obtain ⟨x, R, e⟩ : ∃ x R, spl 32 l = x :: R := by
      have hp := spl_pos 32 l
      match hs : spl 32 l, hp with
      | x :: R, _ => exact ⟨x, R, rfl⟩
    obtain ⟨n, hn⟩ : ∃ n, n = (x :: R).length := ⟨_, rfl⟩
    have hln : ((n : Int) == 2) = false := by
      rw [hn, ← e]; simp only [beq_eq_false_iff_ne, ne_eq]; omega
    have hn0 : (0 : Int) < (n : Int) := by rw [hn, List.length_cons]; omega
    have hn1 : 0 < n := by omega
    have HLN := hid hn
    clear hn
    have HT := hid e
    clear e h2 hpl hok hl
    by_cases h0 : x = nAcq
    · skip
      have b0 : (x == [97, 99, 113, 117, 105, 114, 101]) = true := by rw [h0]; decide
      have b1 : (x == [114, 101, 108, 101, 97, 115, 101]) = false := by rw [h0]; decide
      have b2 : (x == [99, 108, 111, 115, 101]) = false := by rw [h0]; decide
      have b3 : (x == [115, 105, 122, 101]) = false := by rw [h0]; decide
      have b4 : (x == [104, 101, 108, 100]) = false := by rw [h0]; decide
      clear h0
      unfold tx
      go_enter Try.func62, Try.ntmps62
      go_wp2_with fail
      with_reducible refine (CS.out _).mono ?_
      rintro e w1 ⟨v, rfl, ho, hb1⟩
      rw [HT.out] at ho
      obtain ⟨Aw, cw, rfl, _, _, _⟩ := OwnS.form ho
      obtain ⟨kw, ow, rfl, hkw, q0⟩ := ho.sees.word (k := 0) (by simp)
      rw [Nat.add_zero, show ((x :: R) : List (List UInt8))[0] = x from rfl] at q0
      have hD1 := hD.below hb1 hDl
      have hP1 := hP.below hb1
      have hF1 : ∀ b, F b → b < w1.heap.size := fun b e => Nat.lt_of_lt_of_le (hF b e) hb1.size
      have hG1 := grown_of_below hb1 (some D)
      clear ho CS
      rw [← HLN.out]
      obtain ⟨y0, y1, y2, y3, yl, yf⟩ := fourS hD1
      go_wp2
      go_ret
      rw [ER.out]
      exact ⟨A1, A2, A3, c1, c2, c3, rfl, hD1, hP1, hG1⟩
    by_cases h1 : x = nRel
    · skip
      have b0 : (x == [97, 99, 113, 117, 105, 114, 101]) = false := by rw [h1]; decide
      have b1 : (x == [114, 101, 108, 101, 97, 115, 101]) = true := by rw [h1]; decide
      have b2 : (x == [99, 108, 111, 115, 101]) = false := by rw [h1]; decide
      have b3 : (x == [115, 105, 122, 101]) = false := by rw [h1]; decide
      have b4 : (x == [104, 101, 108, 100]) = false := by rw [h1]; decide
      clear h0 h1
      unfold tx
      go_enter Try.func62, Try.ntmps62
      go_wp2_with fail
      with_reducible refine (CS.out _).mono ?_
      rintro e w1 ⟨v, rfl, ho, hb1⟩
      rw [HT.out] at ho
      obtain ⟨Aw, cw, rfl, _, _, _⟩ := OwnS.form ho
      obtain ⟨kw, ow, rfl, hkw, q0⟩ := ho.sees.word (k := 0) (by simp)
      rw [Nat.add_zero, show ((x :: R) : List (List UInt8))[0] = x from rfl] at q0
      have hD1 := hD.below hb1 hDl
      have hP1 := hP.below hb1
      have hF1 : ∀ b, F b → b < w1.heap.size := fun b e => Nat.lt_of_lt_of_le (hF b e) hb1.size
      have hG1 := grown_of_below hb1 (some D)
      clear ho CS
      rw [← HLN.out]
      obtain ⟨y0, y1, y2, y3, yl, yf⟩ := fourS hD1
      go_wp2
      go_ret
      rw [ER.out]
      exact ⟨A1, A2, A3, c1, c2, c3, rfl, hD1, hP1, hG1⟩
    by_cases h2 : x = nCls
    · skip
      have b0 : (x == [97, 99, 113, 117, 105, 114, 101]) = false := by rw [h2]; decide
      have b1 : (x == [114, 101, 108, 101, 97, 115, 101]) = false := by rw [h2]; decide
      have b2 : (x == [99, 108, 111, 115, 101]) = true := by rw [h2]; decide
      have b3 : (x == [115, 105, 122, 101]) = false := by rw [h2]; decide
      have b4 : (x == [104, 101, 108, 100]) = false := by rw [h2]; decide
      clear h0 h1 h2
      unfold tx
      go_enter Try.func62, Try.ntmps62
      go_wp2_with fail
      with_reducible refine (CS.out _).mono ?_
      rintro e w1 ⟨v, rfl, ho, hb1⟩
      rw [HT.out] at ho
      obtain ⟨Aw, cw, rfl, _, _, _⟩ := OwnS.form ho
      obtain ⟨kw, ow, rfl, hkw, q0⟩ := ho.sees.word (k := 0) (by simp)
      rw [Nat.add_zero, show ((x :: R) : List (List UInt8))[0] = x from rfl] at q0
      have hD1 := hD.below hb1 hDl
      have hP1 := hP.below hb1
      have hF1 : ∀ b, F b → b < w1.heap.size := fun b e => Nat.lt_of_lt_of_le (hF b e) hb1.size
      have hG1 := grown_of_below hb1 (some D)
      clear ho CS
      rw [← HLN.out]
      obtain ⟨y0, y1, y2, y3, yl, yf⟩ := fourS hD1
      go_wp2
      go_ret
      rw [ER.out]
      exact ⟨A1, A2, A3, c1, c2, c3, rfl, hD1, hP1, hG1⟩
    by_cases h3 : x = nSiz
    · skip
      have b0 : (x == [97, 99, 113, 117, 105, 114, 101]) = false := by rw [h3]; decide
      have b1 : (x == [114, 101, 108, 101, 97, 115, 101]) = false := by rw [h3]; decide
      have b2 : (x == [99, 108, 111, 115, 101]) = false := by rw [h3]; decide
      have b3 : (x == [115, 105, 122, 101]) = true := by rw [h3]; decide
      have b4 : (x == [104, 101, 108, 100]) = false := by rw [h3]; decide
      clear h0 h1 h2 h3
      unfold tx
      go_enter Try.func62, Try.ntmps62
      go_wp2_with fail
      with_reducible refine (CS.out _).mono ?_
      rintro e w1 ⟨v, rfl, ho, hb1⟩
      rw [HT.out] at ho
      obtain ⟨Aw, cw, rfl, _, _, _⟩ := OwnS.form ho
      obtain ⟨kw, ow, rfl, hkw, q0⟩ := ho.sees.word (k := 0) (by simp)
      rw [Nat.add_zero, show ((x :: R) : List (List UInt8))[0] = x from rfl] at q0
      have hD1 := hD.below hb1 hDl
      have hP1 := hP.below hb1
      have hF1 : ∀ b, F b → b < w1.heap.size := fun b e => Nat.lt_of_lt_of_le (hF b e) hb1.size
      have hG1 := grown_of_below hb1 (some D)
      clear ho CS
      rw [← HLN.out]
      obtain ⟨y0, y1, y2, y3, yl, yf⟩ := fourS hD1
      go_wp2
      go_ret
      rw [ER.out]
      exact ⟨A1, A2, A3, c1, c2, c3, rfl, hD1, hP1, hG1⟩
    by_cases h4 : x = nHel
    · skip
      have b0 : (x == [97, 99, 113, 117, 105, 114, 101]) = false := by rw [h4]; decide
      have b1 : (x == [114, 101, 108, 101, 97, 115, 101]) = false := by rw [h4]; decide
      have b2 : (x == [99, 108, 111, 115, 101]) = false := by rw [h4]; decide
      have b3 : (x == [115, 105, 122, 101]) = false := by rw [h4]; decide
      have b4 : (x == [104, 101, 108, 100]) = true := by rw [h4]; decide
      clear h0 h1 h2 h3 h4
      unfold tx
      go_enter Try.func62, Try.ntmps62
      go_wp2_with fail
      with_reducible refine (CS.out _).mono ?_
      rintro e w1 ⟨v, rfl, ho, hb1⟩
      rw [HT.out] at ho
      obtain ⟨Aw, cw, rfl, _, _, _⟩ := OwnS.form ho
      obtain ⟨kw, ow, rfl, hkw, q0⟩ := ho.sees.word (k := 0) (by simp)
      rw [Nat.add_zero, show ((x :: R) : List (List UInt8))[0] = x from rfl] at q0
      have hD1 := hD.below hb1 hDl
      have hP1 := hP.below hb1
      have hF1 : ∀ b, F b → b < w1.heap.size := fun b e => Nat.lt_of_lt_of_le (hF b e) hb1.size
      have hG1 := grown_of_below hb1 (some D)
      clear ho CS
      rw [← HLN.out]
      obtain ⟨y0, y1, y2, y3, yl, yf⟩ := fourS hD1
      go_wp2
      go_ret
      rw [ER.out]
      exact ⟨A1, A2, A3, c1, c2, c3, rfl, hD1, hP1, hG1⟩
    · skip
      have b0 : (x == [97, 99, 113, 117, 105, 114, 101]) = false := name_ne h0
      have b1 : (x == [114, 101, 108, 101, 97, 115, 101]) = false := name_ne h1
      have b2 : (x == [99, 108, 111, 115, 101]) = false := name_ne h2
      have b3 : (x == [115, 105, 122, 101]) = false := name_ne h3
      have b4 : (x == [104, 101, 108, 100]) = false := name_ne h4
      clear h0 h1 h2 h3 h4
      unfold tx
      go_enter Try.func62, Try.ntmps62
      go_wp2_with fail
      with_reducible refine (CS.out _).mono ?_
      rintro e w1 ⟨v, rfl, ho, hb1⟩
      rw [HT.out] at ho
      obtain ⟨Aw, cw, rfl, _, _, _⟩ := OwnS.form ho
      obtain ⟨kw, ow, rfl, hkw, q0⟩ := ho.sees.word (k := 0) (by simp)
      rw [Nat.add_zero, show ((x :: R) : List (List UInt8))[0] = x from rfl] at q0
      have hD1 := hD.below hb1 hDl
      have hP1 := hP.below hb1
      have hF1 : ∀ b, F b → b < w1.heap.size := fun b e => Nat.lt_of_lt_of_le (hF b e) hb1.size
      have hG1 := grown_of_below hb1 (some D)
      clear ho CS
      rw [← HLN.out]
      obtain ⟨y0, y1, y2, y3, yl, yf⟩ := fourS hD1
      go_wp2
      go_ret
      rw [ER.out]
      exact ⟨A1, A2, A3, c1, c2, c3, rfl, hD1, hP1, hG1⟩

end Go.Proofs.Ytehdbllpiokbnaa
