/-
  The walk of the law FnLeaveLineOrder: at every code it returns true and changes nothing that was there. Conditions: none.
-/
import Derived.Test.YtcfijijpcafncaaLawFrameC
import Derived.Test.YtcfijijpcafncaaLineDrawB
import Derived.Test.YtcfijijpcafncaaLineE
import Derived.Test.YtcfijijpcafncaaLineI
import Derived.Test.YtcfijijpcafncaaLineMathD
import Derived.Deep.RegionHeld3
namespace Go.Proofs.Ytcfijijpcafncaa
open Go.RowKit

section
variable {w0 w : World} {L b : Nat} {s n : Int} {A : Option Addr} {c : Nat} {l : List Int} {cs : Array Value}
theorem LS.side (h : LS w0 w L s n A c l) (hx : At w b 25 cs) (hb : L < b) (i : Nat) (u : Value) : LS w0 (w.setCell ⟨b, i, none⟩ u) L s n A c l := by
  obtain ⟨h1, h2, h3, h4⟩ := h
  exact ⟨h1.far (by simp; omega) u, h2.far hx (by decide), h3.setCell (by simp; omega) u, h4⟩
theorem LS.side3 (h : LS w0 w L s n A c l) (hx : At w b 25 cs) (hb : L < b) (u0 u1 u2 : Value) : LS w0 (((w.setCell ⟨b, 0, none⟩ u0).setCell ⟨b, 1, none⟩ u1).setCell ⟨b, 2, none⟩ u2) L s n A c l :=
  ((h.side hx hb 0 u0).side (hx.set 0 u0) hb 1 u1).side ((hx.set 0 u0).set 1 u1) hb 2 u2
end

set_option maxHeartbeats 2000000 in
theorem walkLeaveLineOrder (a : Option Addr) (len cap : Nat) (zs : List Int) (w : World) (hn : zs.length = len) (hc : len ≤ cap) (hcc : cap ≤ maxLen) (h : Sees w w.heap.size a (byts zs)) (hz : ∀ y ∈ zs, 0 ≤ y ∧ y ≤ 255) :
    Calls Try.prog 8 #[.slice a len cap] w fun e w' => e = .returned (.bool true) ∧ Below w.heap.size w w' := by
  have HE := hid hn
  have HC := hid hcc
  have HZ := hid hz
  clear hn hcc hz
  by_cases hbig : 1048576 < len
  · go_enter Try.func8, Try.ntmps8
    go_wp2
    go_ret
    exact ⟨rfl, Below.refl _ _⟩
  · go_enter Try.func8, Try.ntmps8
    go_wp2_with fail
    refine (drawLeaveLine_any _ _ _ _ _ h HZ.out HE.out hc (by omega) HC.out).mono ?_
    rintro e w1 ⟨s, n, A, c, l, t, rfl, ho, k1, k2, k3, k4, hl, hb1⟩
    have HL := hid (show l.length ≤ 4194304 by omega)
    clear hl
    have ls := LS.start (s := s) (n := n) ho hb1
    rcases hb : Line.leaveB s n l t with _ | _
    · go_wp2_with fail
      refine (iLeaveLine_any _ _ _ _ _ _ _ ls.sees HL.out).mono ?_
      rintro e w2 ⟨⟨hf, _⟩ | ⟨_, rfl⟩, hb2⟩
      · rw [hb] at hf; cases hf
      have ls2 := ls.below hb2
      obtain ⟨c0, c1, c2, cl⟩ := ls2.cells
      have lo := LS.zero w2
      have ls3 := ls2.alloc (.cells #[.int .i64 0, .int .i64 0, .slice none 0 0] 25)
      go_wp2_with fail
      refine (sLeaveLine_any _ _ _ _ _ _ _ ls3.sees HL.out).mono ?_
      rintro e w3 ⟨⟨hf, _⟩ | ⟨_, rfl⟩, hb3⟩
      · rw [hb] at hf; cases hf
      have ls4 := ls3.below hb3
      have lo4 := lo.below hb3
      clear c0 c1 c2 cl
      obtain ⟨c0, c1, c2, cl⟩ := lo4.cells
      go_wp2_with fail
      refine (equalLine_zero _).mono ?_
      rintro e w4 ⟨rfl, hb4⟩
      have ls5 := (ls4.alloc (.cells #[.int .i64 0, .int .i64 0, .slice none 0 0] 25)).below hb4
      have lo5 := (lo4.alloc (.cells #[.int .i64 0, .int .i64 0, .slice none 0 0] 25)).below hb4
      have lw5 := (LS.zero w3).below hb4
      clear c0 c1 c2 cl
      obtain ⟨d0, d1, d2, dl⟩ := lo5.cells
      obtain ⟨e0, e1, e2, el⟩ := lw5.cells
      go_wp2_with fail
      refine (equalLine_zero _).mono ?_
      rintro e w6 ⟨rfl, hb6⟩
      have ls7 := ls5.below hb6
      go_wp2
      go_ret
      exact ⟨rfl, ls7.2.2.1⟩
    · obtain ⟨hok, p1, p2, p3⟩ := Line.leave_parts hb
      have HB := hid hb
      have hgl := hid (show (Line.leaveG s n l t).length ≤ 4194304 by have := Line.gone_len (Line.leave_ok hb); omega)
      go_wp2_with fail
      refine (iLeaveLine_any _ _ _ _ _ _ _ ls.sees HL.out).mono ?_
      rintro e w2 ⟨⟨_, v2, rfl, ho2⟩ | ⟨hf, _⟩, hb2⟩
      rotate_left
      · rw [hb] at hf; cases hf
      obtain ⟨A2, cc2, rfl, _⟩ := ho2.form
      have ls2 := ls.below hb2
      obtain ⟨c0, c1, c2, cl⟩ := ls2.cells
      have lo := LS.start (s := Line.leaveS s n l t) (n := n) ho2 hb2
      have ls3 := ls2.alloc (.cells #[.int .i64 (Line.leaveS s n l t), .int .i64 n, .slice A2 (Line.leaveG s n l t).length cc2] 25)
      go_wp2_with fail
      refine (sLeaveLine_any _ _ _ _ _ _ _ ls3.sees HL.out).mono ?_
      rintro e w3 ⟨⟨_, v3, rfl, ho3⟩ | ⟨hf, _⟩, hb3⟩
      rotate_left
      · rw [hb] at hf; cases hf
      obtain ⟨A3, cc3, rfl, _⟩ := ho3.form
      have ls4 := ls3.below hb3
      have lo4 := lo.below hb3
      have lw4 := LS.start (s := Line.leaveS s n l t) (n := n) ho3 hb3
      clear c0 c1 c2 cl
      obtain ⟨c0, c1, c2, cl⟩ := lo4.cells
      go_wp2_with fail
      refine (equalLine_same _ _ _ _ _ _ _ _ (lo4.alloc _).sees lw4.sees hgl.out).mono ?_
      rintro e w4 ⟨rfl, hb4⟩
      have ls5 := (ls4.alloc (.cells #[.int .i64 (Line.leaveS s n l t), .int .i64 n, .slice A3 (Line.leaveG s n l t).length cc3] 25)).below hb4
      have lo5 := (lo4.alloc (.cells #[.int .i64 (Line.leaveS s n l t), .int .i64 n, .slice A3 (Line.leaveG s n l t).length cc3] 25)).below hb4
      clear c0 c1 c2 cl
      obtain ⟨c0, c1, c2, cl⟩ := ls5.cells
      have hok' := Line.leave_ok hb
      have hw12 := waitV_len (Line.leaveS s n l t) n (Line.leaveG s n l t)
      obtain ⟨S, hS⟩ : ∃ S, S = Line.leaveS s n l t := ⟨_, rfl⟩
      obtain ⟨G, hG⟩ : ∃ G, G = Line.leaveG s n l t := ⟨_, rfl⟩
      have hord : ∀ x, Line.leaveB S n G x = true → Line.leaveB s n l x = true ∧ Line.leaveB (Line.leaveS s n l x) n (Line.leaveG s n l x) t = true ∧ Line.leaveS S n G x = Line.leaveS (Line.leaveS s n l x) n (Line.leaveG s n l x) t ∧ Line.leaveG S n G x = Line.leaveG (Line.leaveS s n l x) n (Line.leaveG s n l x) t := fun x hx => by
        rw [hS, hG] at hx ⊢
        exact Line.leave_order hb hx
      have HORD := hid hord
      rw [← hS, ← hG] at lo5 hw12 hok'
      rw [← hG] at hgl
      rw [← hS, ← hG]
      clear hS hG hord hb
      have HWW := hid (Line.waitV_yes hok')
      have HOK := hid hok'
      clear c0 c1 c2 cl hok hok'
      obtain ⟨c0, c1, c2, cl⟩ := lo5.cells
      go_wp2_with fail
      refine (iWaitingTickets_any _ _ _ _ _ _ lo5.sees hgl.out).mono ?_
      rintro e w5 ⟨v5, rfl, ho5, hb5⟩
      have ls6 := ls5.below hb5
      have lo6 := lo5.below hb5
      obtain ⟨W, hW⟩ : ∃ W, W = Line.waitV S n G := ⟨_, rfl⟩
      rw [← hW] at ho5 hw12
      have HW := hid (hW.trans HWW.out)
      clear hW c0 c1 c2 cl hb2 hb3 hb4 hb5 ho2 ho3 lo lo4 lo5 lw4 ls2 ls3 ls4 ls5 p1 p2 p3
      obtain ⟨A5, cc5, rfl, hs5⟩ := ho5.form
      go_wp2
      go_loopw [10] (fun i wr => ∃ j : Nat, i = .int .i64 j ∧ j ≤ W.length ∧ Below w5.heap.size w5 wr) (fun i _ => W.length - (intOf i).toNat)
      case atStart => exact ⟨0, rfl, Nat.zero_le _, Below.refl _ _⟩
      case round =>
        obtain ⟨j, rfl, hj, hbwr⟩ := hrel
        have hzwr := hbwr.size
        have lswr := ls6.below hbwr
        have lowr := lo6.below hbwr
        by_cases hlt : j < W.length
        · have hi : (j : Int) < (W.length : Int) := by omega
          have hWwr0 := ho5.below hbwr
          obtain ⟨b, o, rfl, hbn, hcell⟩ := (Sees.of_own hWwr0.out).int hlt
          have hWwr : Own wr w4.heap.size (.slice (some ⟨b, o, none⟩) W.length cc5) W := hWwr0
          clear hWwr0
          obtain ⟨x, hx⟩ : ∃ x, x = W[j] := ⟨_, rfl⟩
          have HX : Hid (W[j] = x) := hid hx.symm
          rw [← hx] at hcell
          have hla : Line.leaveB S n G x = true := by
            unfold Line.leaveB
            rw [HOK.out, Bool.true_and, decide_eq_true_eq, ← HW.out, hx]
            exact List.getElem_mem hlt
          clear hx
          obtain ⟨hlb, hlc, hsc, hgc⟩ := HORD.out x hla
          have HGA0 := hid (show (Line.leaveG S n G x).length ≤ 4194304 by have := Line.gone_len (Line.leave_ok hla); omega)
          have HGB0 := hid (show (Line.leaveG s n l x).length ≤ 4194304 by have := Line.gone_len (Line.leave_ok hlb); omega)
          obtain ⟨SA, hSA⟩ : ∃ y, y = Line.leaveS S n G x := ⟨_, rfl⟩
          obtain ⟨GA, hGA⟩ : ∃ y, y = Line.leaveG S n G x := ⟨_, rfl⟩
          obtain ⟨SB, hSB⟩ : ∃ y, y = Line.leaveS s n l x := ⟨_, rfl⟩
          obtain ⟨GB, hGB⟩ : ∃ y, y = Line.leaveG s n l x := ⟨_, rfl⟩
          have HLA := hid hla
          have HLB := hid hlb
          have HSA : Hid (Line.leaveS S n G x = SA) := hid hSA.symm
          have HGA1 : Hid (Line.leaveG S n G x = GA) := hid hGA.symm
          have HSB : Hid (Line.leaveS s n l x = SB) := hid hSB.symm
          have HGB1 : Hid (Line.leaveG s n l x = GB) := hid hGB.symm
          have HLC : Hid (Line.leaveB SB n GB t = true) := hid (by rw [hSB, hGB]; exact hlc)
          have HSC : Hid (Line.leaveS SB n GB t = SA) := hid (by rw [hSB, hGB, hSA]; exact hsc.symm)
          have HGC : Hid (Line.leaveG SB n GB t = GA) := hid (by rw [hSB, hGB, hGA]; exact hgc.symm)
          have HGA : Hid (GA.length ≤ 4194304) := hid (by rw [hGA]; exact HGA0.out)
          have HGB : Hid (GB.length ≤ 4194304) := hid (by rw [hGB]; exact HGB0.out)
          clear hla hlb hlc hsc hgc hSA hGA hSB hGB HGA0 HGB0
          obtain ⟨y0, y1, y2, yl⟩ := lowr.cells
          have hsd7 : Sees wr.drew wr.drew.heap.size A2 (ints G) := lowr.sees
          have hse7 : Sees (wr.alloc (.cells #[.int .i64 0, .int .i64 0, .slice none 0 0] 25)).drew (wr.alloc (.cells #[.int .i64 0, .int .i64 0, .slice none 0 0] 25)).drew.heap.size A2 (ints G) := (lowr.alloc (.cells #[.int .i64 0, .int .i64 0, .slice none 0 0] 25)).sees
          have hcelld : wr.drew.cell? ⟨b, o + j, none⟩ = some (.int .i64 x) := hcell
          go_wp2_with fail
          go_region_held3 (fun w' => w'.cell? ⟨w2.heap.size, 0, none⟩ = some (.int .i64 S) ∧ w'.cell? ⟨w2.heap.size, 1, none⟩ = some (.int .i64 n) ∧ w'.cell? ⟨w2.heap.size, 2, none⟩ = some (.slice A2 G.length cc2) ∧ w'.cell? ⟨b, o + j, none⟩ = some (.int .i64 x))
            (first | with_reducible exact ⟨y0, y1, y2, hcell⟩ | with_reducible exact ⟨d0, d1, d2, hcell7⟩ | go_keep)
            (first
              | (go_at_call 19; (with_reducible refine (iLeaveLine_any A2 cc2 S n x G wr.drew hsd7 hgl.out).mono ?_); rintro e w7 ⟨h7, hb7⟩; rcases h7 with ⟨_, v7, he, ho7⟩ | ⟨hf, _⟩; rotate_left; (exact absurd (HLA.out.symm.trans hf) (by simp)); rw [HSA.out] at he; rw [HGA1.out] at ho7; obtain ⟨A7, c7, rfl, _⟩ := ho7.form; subst he; have hz7 := hb7.size; have lsb7 := LS.below (lowr.below ((Below.refl _ _).drew)) hb7; obtain ⟨d0, d1, d2, dl⟩ := lsb7.cells; have hcell7 := (hb7.cell (p := ⟨b, o + j, none⟩) hbn).trans hcelld)
              | (go_at_call 19; (with_reducible refine (iLeaveLine_any A2 cc2 S n x G (wr.alloc (.cells #[.int .i64 0, .int .i64 0, .slice none 0 0] 25)).drew hse7 hgl.out).mono ?_); rintro e w7 ⟨h7, hb7⟩; rcases h7 with ⟨_, v7, he, ho7⟩ | ⟨hf, _⟩; rotate_left; (exact absurd (HLA.out.symm.trans hf) (by simp)); rw [HSA.out] at he; rw [HGA1.out] at ho7; obtain ⟨A7, c7, rfl, _⟩ := ho7.form; subst he; have hz7 := hb7.size; have lsb7 := LS.below ((lowr.alloc (.cells #[.int .i64 0, .int .i64 0, .slice none 0 0] 25)).below ((Below.refl _ _).drew)) hb7; obtain ⟨d0, d1, d2, dl⟩ := lsb7.cells; have hcell7 := (((Below.refl wr.heap.size wr).alloc (Nat.le_refl _) (.cells #[.int .i64 0, .int .i64 0, .slice none 0 0] 25)).drew.trans (hb7.mono (by simp))).cell (p := ⟨b, o + j, none⟩) hbn |>.trans hcell; have t7 : At w7 wr.heap.size 25 #[.int .i64 0, .int .i64 0, .slice none 0 0] := ((At.new wr 25 #[.int .i64 0, .int .i64 0, .slice none 0 0]).drew).below hb7 (by simp); have q7 := t7.cell; have f7 := t7.frozen; have nl7 : ¬ w2.heap.size = wr.heap.size := (by omega); have nb7 : ¬ b = wr.heap.size := (by omega); have nl7' : ¬ wr.heap.size = w2.heap.size := (by omega); have nb7' : ¬ wr.heap.size = b := (by omega)))
          · obtain ⟨X, hX⟩ : ∃ X, X = w7.alloc (.cells #[.int .i64 SA, .int .i64 n, .slice A7 GA.length c7] 25) := ⟨_, rfl⟩
            rw [← hX]
            have lsX : LS w X w1.heap.size s n A c l := by rw [hX]; exact ((lswr.below ((Below.refl _ _).drew)).below hb7).alloc _
            have loX : LS (w1.alloc (.cells #[.int .i64 s, .int .i64 n, .slice A l.length c] 25)) X w2.heap.size S n A2 cc2 G := by rw [hX]; exact ((lowr.below ((Below.refl _ _).drew)).below hb7).alloc _
            have hWX : Own X w4.heap.size (.slice (some ⟨b, o, none⟩) W.length cc5) W := by rw [hX]; exact ((hWwr.below ((Below.refl _ _).drew)).below hb7).below ((Below.refl _ _).alloc (Nat.le_refl _) _)
            have hbX0 : Below w5.heap.size w5 w7 := hbwr.drew.trans (hb7.mono hzwr)
            have hbX : Below w5.heap.size w5 X := by rw [hX]; exact hbX0.alloc hbX0.size _
            have lnX : LS wr.drew X w7.heap.size SA n A7 c7 GA := by rw [hX]; exact LS.start ho7 hb7
            have hbnX : b < X.heap.size := by rw [hX]; simp; have := hb7.size; have : b < wr.drew.heap.size := hbn; omega
            have hzX := hbX.size
            clear hbX0 hX y0 y1 y2 yl d0 d1 d2 dl hcell hcelld hcell7 ho7 hb7 hz7 lsb7
            have hbn : b < X.heap.size := hbnX
            obtain ⟨b1, o1, eb, _, hcell⟩ := (Sees.of_own hWX.out).int hlt
            injection eb with eb
            injection eb with eb1 eb2
            subst eb1 eb2
            rw [HX.out] at hcell
            obtain ⟨y0, y1, y2, yl⟩ := lsX.cells
            have hsd8 : Sees X.drew X.drew.heap.size A (ints l) := lsX.sees
            have hse8 : Sees (X.alloc (.cells #[.int .i64 0, .int .i64 0, .slice none 0 0] 25)).drew (X.alloc (.cells #[.int .i64 0, .int .i64 0, .slice none 0 0] 25)).drew.heap.size A (ints l) := (lsX.alloc (.cells #[.int .i64 0, .int .i64 0, .slice none 0 0] 25)).sees
            have hcelld : X.drew.cell? ⟨b, o + j, none⟩ = some (.int .i64 x) := hcell
            go_wp2_with fail
            go_region_held3 (fun w' => w'.cell? ⟨w1.heap.size, 0, none⟩ = some (.int .i64 s) ∧ w'.cell? ⟨w1.heap.size, 1, none⟩ = some (.int .i64 n) ∧ w'.cell? ⟨w1.heap.size, 2, none⟩ = some (.slice A l.length c) ∧ w'.cell? ⟨b, o + j, none⟩ = some (.int .i64 x))
              (first | with_reducible exact ⟨y0, y1, y2, hcell⟩ | with_reducible exact ⟨d0, d1, d2, hcell8⟩ | go_keep)
              (first
                | (go_at_call 19; (with_reducible refine (iLeaveLine_any A c s n x l X.drew hsd8 HL.out).mono ?_); rintro e w8 ⟨h8, hb8⟩; rcases h8 with ⟨_, v8, he, ho8⟩ | ⟨hf, _⟩; rotate_left; (exact absurd (HLB.out.symm.trans hf) (by simp)); rw [HSB.out] at he; rw [HGB1.out] at ho8; obtain ⟨A8, c8, rfl, _⟩ := ho8.form; subst he; have hz8 := hb8.size; have lsb8 := LS.below (lsX.below ((Below.refl _ _).drew)) hb8; obtain ⟨d0, d1, d2, dl⟩ := lsb8.cells; have hcell8 := (hb8.cell (p := ⟨b, o + j, none⟩) hbn).trans hcelld)
                | (go_at_call 19; (with_reducible refine (iLeaveLine_any A c s n x l (X.alloc (.cells #[.int .i64 0, .int .i64 0, .slice none 0 0] 25)).drew hse8 HL.out).mono ?_); rintro e w8 ⟨h8, hb8⟩; rcases h8 with ⟨_, v8, he, ho8⟩ | ⟨hf, _⟩; rotate_left; (exact absurd (HLB.out.symm.trans hf) (by simp)); rw [HSB.out] at he; rw [HGB1.out] at ho8; obtain ⟨A8, c8, rfl, _⟩ := ho8.form; subst he; have hz8 := hb8.size; have lsb8 := LS.below ((lsX.alloc (.cells #[.int .i64 0, .int .i64 0, .slice none 0 0] 25)).below ((Below.refl _ _).drew)) hb8; obtain ⟨d0, d1, d2, dl⟩ := lsb8.cells; have hcell8 := (((Below.refl X.heap.size X).alloc (Nat.le_refl _) (.cells #[.int .i64 0, .int .i64 0, .slice none 0 0] 25)).drew.trans (hb8.mono (by simp))).cell (p := ⟨b, o + j, none⟩) hbn |>.trans hcell; have t8 : At w8 X.heap.size 25 #[.int .i64 0, .int .i64 0, .slice none 0 0] := ((At.new X 25 #[.int .i64 0, .int .i64 0, .slice none 0 0]).drew).below hb8 (by simp); have q8 := t8.cell; have f8 := t8.frozen; have nl8 : ¬ w1.heap.size = X.heap.size := (by omega); have nb8 : ¬ b = X.heap.size := (by omega); have nl8' : ¬ X.heap.size = w1.heap.size := (by omega); have nb8' : ¬ X.heap.size = b := (by omega)))
            · obtain ⟨Y, hY⟩ : ∃ Y, Y = w8.alloc (.cells #[.int .i64 SB, .int .i64 n, .slice A8 GB.length c8] 25) := ⟨_, rfl⟩
              rw [← hY]
              have lsY : LS w Y w1.heap.size s n A c l := by rw [hY]; exact ((lsX.below ((Below.refl _ _).drew)).below hb8).alloc _
              have loY : LS (w1.alloc (.cells #[.int .i64 s, .int .i64 n, .slice A l.length c] 25)) Y w2.heap.size S n A2 cc2 G := by rw [hY]; exact ((loX.below ((Below.refl _ _).drew)).below hb8).alloc _
              have hWY : Own Y w4.heap.size (.slice (some ⟨b, o, none⟩) W.length cc5) W := by rw [hY]; exact ((hWX.below ((Below.refl _ _).drew)).below hb8).below ((Below.refl _ _).alloc (Nat.le_refl _) _)
              have hbX0 : Below w5.heap.size w5 w8 := hbX.drew.trans (hb8.mono hzX)
              have hbY : Below w5.heap.size w5 Y := by rw [hY]; exact hbX0.alloc hbX0.size _
              have lnY : LS X.drew Y w8.heap.size SB n A8 c8 GB := by rw [hY]; exact LS.start ho8 hb8
              have hbnY : b < Y.heap.size := by rw [hY]; simp; have := hb8.size; have : b < X.drew.heap.size := hbn; omega
              have hzY := hbY.size
              have laY : LS wr.drew Y w7.heap.size SA n A7 c7 GA := by rw [hY]; exact ((lnX.below ((Below.refl _ _).drew)).below hb8).alloc _
              clear hbX0 hY y0 y1 y2 yl d0 d1 d2 dl hcell hcelld hcell8 ho8 hb8 hz8 lsb8
              obtain ⟨g0, g1, g2, gl⟩ := lnY.cells
              go_wp2_with fail
              refine (iLeaveLine_any _ _ _ _ _ _ _ lnY.sees HGB.out).mono ?_
              rintro e w9 ⟨h9, hb9⟩
              rcases h9 with ⟨_, v9, he, ho9⟩ | ⟨hf, _⟩
              rotate_left
              · rw [HLC.out] at hf; cases hf
              rw [HSC.out] at he
              rw [HGC.out] at ho9
              obtain ⟨A9, c9, rfl, _⟩ := ho9.form
              subst he
              have la9 := laY.below hb9
              have lc := LS.start (s := SA) (n := n) ho9 hb9
              have hb9' : Below w5.heap.size w5 w9 := hbY.trans (hb9.mono hzY)
              clear g0 g1 g2 gl
              obtain ⟨g0, g1, g2, gl⟩ := la9.cells
              go_wp2_with fail
              refine (equalLine_same _ _ _ _ SA n GA _ (la9.alloc _).sees lc.sees HGA.out).mono ?_
              rintro e w10 ⟨rfl, hb10⟩
              have hb10' : Below w5.heap.size w5 w10 := (hb9'.alloc hb9'.size _).trans (hb10.mono (by have := hb9'.size; simp; omega))
              go_wp2
              go_roundw
              case rel => exact ⟨j + 1, by go_num, by omega, hb10'⟩
              case measure => simp [intOf]; omega
            · obtain ⟨Y, hY⟩ : ∃ Y, Y = ((w8.setCell ⟨X.heap.size, 0, none⟩ (.int .i64 SB)).setCell ⟨X.heap.size, 1, none⟩ (.int .i64 n)).setCell ⟨X.heap.size, 2, none⟩ (.slice A8 GB.length c8) := ⟨_, rfl⟩
              rw [← hY]
              have hl1 : w1.heap.size < X.heap.size := lsX.1.lt
              have hl2 : w2.heap.size < X.heap.size := loX.1.lt
              have lsY : LS w Y w1.heap.size s n A c l := by rw [hY]; exact LS.side3 (((lsX.alloc (.cells #[.int .i64 0, .int .i64 0, .slice none 0 0] 25)).below ((Below.refl _ _).drew)).below hb8) t8 hl1 _ _ _
              have loY : LS (w1.alloc (.cells #[.int .i64 s, .int .i64 n, .slice A l.length c] 25)) Y w2.heap.size S n A2 cc2 G := by rw [hY]; exact LS.side3 (((loX.alloc (.cells #[.int .i64 0, .int .i64 0, .slice none 0 0] 25)).below ((Below.refl _ _).drew)).below hb8) t8 hl2 _ _ _
              have hWY : Own Y w4.heap.size (.slice (some ⟨b, o, none⟩) W.length cc5) W := by rw [hY]; exact own_side3 (((hWX.below ((Below.refl _ _).alloc (Nat.le_refl _) (.cells #[.int .i64 0, .int .i64 0, .slice none 0 0] 25))).below ((Below.refl _ _).drew)).below hb8) t8 _ _ _
              have hbY : Below w5.heap.size w5 Y := by rw [hY]; exact ((((hbX.alloc hzX (.cells #[.int .i64 0, .int .i64 0, .slice none 0 0] 25)).drew.trans (hb8.mono (by simp; omega))).setCell hzX _).setCell hzX _).setCell hzX _
              have lnY : LS X Y X.heap.size SB n A8 c8 GB := by
                rw [hY]
                refine ⟨by simpa using ((t8.set 0 (.int .i64 SB)).set 1 (.int .i64 n)).set 2 (.slice A8 GB.length c8), own_side3 (ho8.mono (by simp)) t8 _ _ _, ?_, Nat.le_refl _⟩
                exact (((((Below.refl X.heap.size X).alloc (Nat.le_refl _) (.cells #[.int .i64 0, .int .i64 0, .slice none 0 0] 25)).drew.trans (hb8.mono (by simp))).setCell (Nat.le_refl _) _).setCell (Nat.le_refl _) _).setCell (Nat.le_refl _) _
              have hbnY : b < Y.heap.size := by rw [hY]; simp; have := hb8.size; simp at this; omega
              have hzY := hbY.size
              have laY : LS wr.drew Y w7.heap.size SA n A7 c7 GA := by rw [hY]; exact LS.side3 (((lnX.alloc (.cells #[.int .i64 0, .int .i64 0, .slice none 0 0] 25)).below ((Below.refl _ _).drew)).below hb8) t8 lnX.1.lt _ _ _
              clear hl1 hl2 hY y0 y1 y2 yl d0 d1 d2 dl hcell hcelld hcell8 ho8 hb8 hz8 lsb8 t8 q8 f8 nl8 nb8 nl8' nb8'
              obtain ⟨g0, g1, g2, gl⟩ := lnY.cells
              go_wp2_with fail
              refine (iLeaveLine_any _ _ _ _ _ _ _ lnY.sees HGB.out).mono ?_
              rintro e w9 ⟨h9, hb9⟩
              rcases h9 with ⟨_, v9, he, ho9⟩ | ⟨hf, _⟩
              rotate_left
              · rw [HLC.out] at hf; cases hf
              rw [HSC.out] at he
              rw [HGC.out] at ho9
              obtain ⟨A9, c9, rfl, _⟩ := ho9.form
              subst he
              have la9 := laY.below hb9
              have lc := LS.start (s := SA) (n := n) ho9 hb9
              have hb9' : Below w5.heap.size w5 w9 := hbY.trans (hb9.mono hzY)
              clear g0 g1 g2 gl
              obtain ⟨g0, g1, g2, gl⟩ := la9.cells
              go_wp2_with fail
              refine (equalLine_same _ _ _ _ SA n GA _ (la9.alloc _).sees lc.sees HGA.out).mono ?_
              rintro e w10 ⟨rfl, hb10⟩
              have hb10' : Below w5.heap.size w5 w10 := (hb9'.alloc hb9'.size _).trans (hb10.mono (by have := hb9'.size; simp; omega))
              go_wp2
              go_roundw
              case rel => exact ⟨j + 1, by go_num, by omega, hb10'⟩
              case measure => simp [intOf]; omega

          · obtain ⟨X, hX⟩ : ∃ X, X = ((w7.setCell ⟨wr.heap.size, 0, none⟩ (.int .i64 SA)).setCell ⟨wr.heap.size, 1, none⟩ (.int .i64 n)).setCell ⟨wr.heap.size, 2, none⟩ (.slice A7 GA.length c7) := ⟨_, rfl⟩
            rw [← hX]
            have hl1 : w1.heap.size < wr.heap.size := lswr.1.lt
            have hl2 : w2.heap.size < wr.heap.size := lowr.1.lt
            have lsX : LS w X w1.heap.size s n A c l := by rw [hX]; exact LS.side3 (((lswr.alloc (.cells #[.int .i64 0, .int .i64 0, .slice none 0 0] 25)).below ((Below.refl _ _).drew)).below hb7) t7 hl1 _ _ _
            have loX : LS (w1.alloc (.cells #[.int .i64 s, .int .i64 n, .slice A l.length c] 25)) X w2.heap.size S n A2 cc2 G := by rw [hX]; exact LS.side3 (((lowr.alloc (.cells #[.int .i64 0, .int .i64 0, .slice none 0 0] 25)).below ((Below.refl _ _).drew)).below hb7) t7 hl2 _ _ _
            have hWX : Own X w4.heap.size (.slice (some ⟨b, o, none⟩) W.length cc5) W := by rw [hX]; exact own_side3 (((hWwr.below ((Below.refl _ _).alloc (Nat.le_refl _) (.cells #[.int .i64 0, .int .i64 0, .slice none 0 0] 25))).below ((Below.refl _ _).drew)).below hb7) t7 _ _ _
            have hbX : Below w5.heap.size w5 X := by rw [hX]; exact ((((hbwr.alloc hzwr (.cells #[.int .i64 0, .int .i64 0, .slice none 0 0] 25)).drew.trans (hb7.mono (by simp; omega))).setCell hzwr _).setCell hzwr _).setCell hzwr _
            have lnX : LS wr X wr.heap.size SA n A7 c7 GA := by
              rw [hX]
              refine ⟨by simpa using ((t7.set 0 (.int .i64 SA)).set 1 (.int .i64 n)).set 2 (.slice A7 GA.length c7), own_side3 (ho7.mono (by simp)) t7 _ _ _, ?_, Nat.le_refl _⟩
              exact (((((Below.refl wr.heap.size wr).alloc (Nat.le_refl _) (.cells #[.int .i64 0, .int .i64 0, .slice none 0 0] 25)).drew.trans (hb7.mono (by simp))).setCell (Nat.le_refl _) _).setCell (Nat.le_refl _) _).setCell (Nat.le_refl _) _
            have hbnX : b < X.heap.size := by rw [hX]; simp; have := hb7.size; simp at this; omega
            have hzX := hbX.size
            clear hl1 hl2 hX y0 y1 y2 yl d0 d1 d2 dl hcell hcelld hcell7 ho7 hb7 hz7 lsb7 t7 q7 f7 nl7 nb7 nl7' nb7'
            have hbn : b < X.heap.size := hbnX
            obtain ⟨b1, o1, eb, _, hcell⟩ := (Sees.of_own hWX.out).int hlt
            injection eb with eb
            injection eb with eb1 eb2
            subst eb1 eb2
            rw [HX.out] at hcell
            obtain ⟨y0, y1, y2, yl⟩ := lsX.cells
            have hsd8 : Sees X.drew X.drew.heap.size A (ints l) := lsX.sees
            have hse8 : Sees (X.alloc (.cells #[.int .i64 0, .int .i64 0, .slice none 0 0] 25)).drew (X.alloc (.cells #[.int .i64 0, .int .i64 0, .slice none 0 0] 25)).drew.heap.size A (ints l) := (lsX.alloc (.cells #[.int .i64 0, .int .i64 0, .slice none 0 0] 25)).sees
            have hcelld : X.drew.cell? ⟨b, o + j, none⟩ = some (.int .i64 x) := hcell
            go_wp2_with fail
            go_region_held3 (fun w' => w'.cell? ⟨w1.heap.size, 0, none⟩ = some (.int .i64 s) ∧ w'.cell? ⟨w1.heap.size, 1, none⟩ = some (.int .i64 n) ∧ w'.cell? ⟨w1.heap.size, 2, none⟩ = some (.slice A l.length c) ∧ w'.cell? ⟨b, o + j, none⟩ = some (.int .i64 x))
              (first | with_reducible exact ⟨y0, y1, y2, hcell⟩ | with_reducible exact ⟨d0, d1, d2, hcell8⟩ | go_keep)
              (first
                | (go_at_call 19; (with_reducible refine (iLeaveLine_any A c s n x l X.drew hsd8 HL.out).mono ?_); rintro e w8 ⟨h8, hb8⟩; rcases h8 with ⟨_, v8, he, ho8⟩ | ⟨hf, _⟩; rotate_left; (exact absurd (HLB.out.symm.trans hf) (by simp)); rw [HSB.out] at he; rw [HGB1.out] at ho8; obtain ⟨A8, c8, rfl, _⟩ := ho8.form; subst he; have hz8 := hb8.size; have lsb8 := LS.below (lsX.below ((Below.refl _ _).drew)) hb8; obtain ⟨d0, d1, d2, dl⟩ := lsb8.cells; have hcell8 := (hb8.cell (p := ⟨b, o + j, none⟩) hbn).trans hcelld)
                | (go_at_call 19; (with_reducible refine (iLeaveLine_any A c s n x l (X.alloc (.cells #[.int .i64 0, .int .i64 0, .slice none 0 0] 25)).drew hse8 HL.out).mono ?_); rintro e w8 ⟨h8, hb8⟩; rcases h8 with ⟨_, v8, he, ho8⟩ | ⟨hf, _⟩; rotate_left; (exact absurd (HLB.out.symm.trans hf) (by simp)); rw [HSB.out] at he; rw [HGB1.out] at ho8; obtain ⟨A8, c8, rfl, _⟩ := ho8.form; subst he; have hz8 := hb8.size; have lsb8 := LS.below ((lsX.alloc (.cells #[.int .i64 0, .int .i64 0, .slice none 0 0] 25)).below ((Below.refl _ _).drew)) hb8; obtain ⟨d0, d1, d2, dl⟩ := lsb8.cells; have hcell8 := (((Below.refl X.heap.size X).alloc (Nat.le_refl _) (.cells #[.int .i64 0, .int .i64 0, .slice none 0 0] 25)).drew.trans (hb8.mono (by simp))).cell (p := ⟨b, o + j, none⟩) hbn |>.trans hcell; have t8 : At w8 X.heap.size 25 #[.int .i64 0, .int .i64 0, .slice none 0 0] := ((At.new X 25 #[.int .i64 0, .int .i64 0, .slice none 0 0]).drew).below hb8 (by simp); have q8 := t8.cell; have f8 := t8.frozen; have nl8 : ¬ w1.heap.size = X.heap.size := (by omega); have nb8 : ¬ b = X.heap.size := (by omega); have nl8' : ¬ X.heap.size = w1.heap.size := (by omega); have nb8' : ¬ X.heap.size = b := (by omega)))
            · obtain ⟨Y, hY⟩ : ∃ Y, Y = w8.alloc (.cells #[.int .i64 SB, .int .i64 n, .slice A8 GB.length c8] 25) := ⟨_, rfl⟩
              rw [← hY]
              have lsY : LS w Y w1.heap.size s n A c l := by rw [hY]; exact ((lsX.below ((Below.refl _ _).drew)).below hb8).alloc _
              have loY : LS (w1.alloc (.cells #[.int .i64 s, .int .i64 n, .slice A l.length c] 25)) Y w2.heap.size S n A2 cc2 G := by rw [hY]; exact ((loX.below ((Below.refl _ _).drew)).below hb8).alloc _
              have hWY : Own Y w4.heap.size (.slice (some ⟨b, o, none⟩) W.length cc5) W := by rw [hY]; exact ((hWX.below ((Below.refl _ _).drew)).below hb8).below ((Below.refl _ _).alloc (Nat.le_refl _) _)
              have hbX0 : Below w5.heap.size w5 w8 := hbX.drew.trans (hb8.mono hzX)
              have hbY : Below w5.heap.size w5 Y := by rw [hY]; exact hbX0.alloc hbX0.size _
              have lnY : LS X.drew Y w8.heap.size SB n A8 c8 GB := by rw [hY]; exact LS.start ho8 hb8
              have hbnY : b < Y.heap.size := by rw [hY]; simp; have := hb8.size; have : b < X.drew.heap.size := hbn; omega
              have hzY := hbY.size
              have laY : LS wr Y wr.heap.size SA n A7 c7 GA := by rw [hY]; exact ((lnX.below ((Below.refl _ _).drew)).below hb8).alloc _
              clear hbX0 hY y0 y1 y2 yl d0 d1 d2 dl hcell hcelld hcell8 ho8 hb8 hz8 lsb8
              obtain ⟨g0, g1, g2, gl⟩ := lnY.cells
              go_wp2_with fail
              refine (iLeaveLine_any _ _ _ _ _ _ _ lnY.sees HGB.out).mono ?_
              rintro e w9 ⟨h9, hb9⟩
              rcases h9 with ⟨_, v9, he, ho9⟩ | ⟨hf, _⟩
              rotate_left
              · rw [HLC.out] at hf; cases hf
              rw [HSC.out] at he
              rw [HGC.out] at ho9
              obtain ⟨A9, c9, rfl, _⟩ := ho9.form
              subst he
              have la9 := laY.below hb9
              have lc := LS.start (s := SA) (n := n) ho9 hb9
              have hb9' : Below w5.heap.size w5 w9 := hbY.trans (hb9.mono hzY)
              clear g0 g1 g2 gl
              obtain ⟨g0, g1, g2, gl⟩ := la9.cells
              go_wp2_with fail
              refine (equalLine_same _ _ _ _ SA n GA _ (la9.alloc _).sees lc.sees HGA.out).mono ?_
              rintro e w10 ⟨rfl, hb10⟩
              have hb10' : Below w5.heap.size w5 w10 := (hb9'.alloc hb9'.size _).trans (hb10.mono (by have := hb9'.size; simp; omega))
              go_wp2
              go_roundw
              case rel => exact ⟨j + 1, by go_num, by omega, hb10'⟩
              case measure => simp [intOf]; omega
            · obtain ⟨Y, hY⟩ : ∃ Y, Y = ((w8.setCell ⟨X.heap.size, 0, none⟩ (.int .i64 SB)).setCell ⟨X.heap.size, 1, none⟩ (.int .i64 n)).setCell ⟨X.heap.size, 2, none⟩ (.slice A8 GB.length c8) := ⟨_, rfl⟩
              rw [← hY]
              have hl1 : w1.heap.size < X.heap.size := lsX.1.lt
              have hl2 : w2.heap.size < X.heap.size := loX.1.lt
              have lsY : LS w Y w1.heap.size s n A c l := by rw [hY]; exact LS.side3 (((lsX.alloc (.cells #[.int .i64 0, .int .i64 0, .slice none 0 0] 25)).below ((Below.refl _ _).drew)).below hb8) t8 hl1 _ _ _
              have loY : LS (w1.alloc (.cells #[.int .i64 s, .int .i64 n, .slice A l.length c] 25)) Y w2.heap.size S n A2 cc2 G := by rw [hY]; exact LS.side3 (((loX.alloc (.cells #[.int .i64 0, .int .i64 0, .slice none 0 0] 25)).below ((Below.refl _ _).drew)).below hb8) t8 hl2 _ _ _
              have hWY : Own Y w4.heap.size (.slice (some ⟨b, o, none⟩) W.length cc5) W := by rw [hY]; exact own_side3 (((hWX.below ((Below.refl _ _).alloc (Nat.le_refl _) (.cells #[.int .i64 0, .int .i64 0, .slice none 0 0] 25))).below ((Below.refl _ _).drew)).below hb8) t8 _ _ _
              have hbY : Below w5.heap.size w5 Y := by rw [hY]; exact ((((hbX.alloc hzX (.cells #[.int .i64 0, .int .i64 0, .slice none 0 0] 25)).drew.trans (hb8.mono (by simp; omega))).setCell hzX _).setCell hzX _).setCell hzX _
              have lnY : LS X Y X.heap.size SB n A8 c8 GB := by
                rw [hY]
                refine ⟨by simpa using ((t8.set 0 (.int .i64 SB)).set 1 (.int .i64 n)).set 2 (.slice A8 GB.length c8), own_side3 (ho8.mono (by simp)) t8 _ _ _, ?_, Nat.le_refl _⟩
                exact (((((Below.refl X.heap.size X).alloc (Nat.le_refl _) (.cells #[.int .i64 0, .int .i64 0, .slice none 0 0] 25)).drew.trans (hb8.mono (by simp))).setCell (Nat.le_refl _) _).setCell (Nat.le_refl _) _).setCell (Nat.le_refl _) _
              have hbnY : b < Y.heap.size := by rw [hY]; simp; have := hb8.size; simp at this; omega
              have hzY := hbY.size
              have laY : LS wr Y wr.heap.size SA n A7 c7 GA := by rw [hY]; exact LS.side3 (((lnX.alloc (.cells #[.int .i64 0, .int .i64 0, .slice none 0 0] 25)).below ((Below.refl _ _).drew)).below hb8) t8 lnX.1.lt _ _ _
              clear hl1 hl2 hY y0 y1 y2 yl d0 d1 d2 dl hcell hcelld hcell8 ho8 hb8 hz8 lsb8 t8 q8 f8 nl8 nb8 nl8' nb8'
              obtain ⟨g0, g1, g2, gl⟩ := lnY.cells
              go_wp2_with fail
              refine (iLeaveLine_any _ _ _ _ _ _ _ lnY.sees HGB.out).mono ?_
              rintro e w9 ⟨h9, hb9⟩
              rcases h9 with ⟨_, v9, he, ho9⟩ | ⟨hf, _⟩
              rotate_left
              · rw [HLC.out] at hf; cases hf
              rw [HSC.out] at he
              rw [HGC.out] at ho9
              obtain ⟨A9, c9, rfl, _⟩ := ho9.form
              subst he
              have la9 := laY.below hb9
              have lc := LS.start (s := SA) (n := n) ho9 hb9
              have hb9' : Below w5.heap.size w5 w9 := hbY.trans (hb9.mono hzY)
              clear g0 g1 g2 gl
              obtain ⟨g0, g1, g2, gl⟩ := la9.cells
              go_wp2_with fail
              refine (equalLine_same _ _ _ _ SA n GA _ (la9.alloc _).sees lc.sees HGA.out).mono ?_
              rintro e w10 ⟨rfl, hb10⟩
              have hb10' : Below w5.heap.size w5 w10 := (hb9'.alloc hb9'.size _).trans (hb10.mono (by have := hb9'.size; simp; omega))
              go_wp2
              go_roundw
              case rel => exact ⟨j + 1, by go_num, by omega, hb10'⟩
              case measure => simp [intOf]; omega


        · have hi : ¬ (j : Int) < (W.length : Int) := by omega
          go_wp2
          go_ret
          exact ⟨rfl, LS.bel lswr⟩

end Go.Proofs.Ytcfijijpcafncaa
