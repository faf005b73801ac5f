/-
  The walk of the law FnValidShare: at every code it returns true and changes nothing that was there. Conditions: none.
-/
import Derived.Test.YtimjalhhigekpaaLawSh
import Derived.Test.YtimjalhhigekpaaLawFrame
import Derived.BigQuiet
import Derived.Deep.RegionHeld3

namespace Go.Proofs.Ytimjalhhigekpaa
open Go.RowKit Sha

set_option maxHeartbeats 8000000 in
set_option maxRecDepth 16384 in
theorem walkValidShare (a : Option Addr) (len cap : Nat) (zs : List Int) (w : World) (hn : zs.length = len) (hc : len ≤ cap) (hcc : cap ≤ maxLen) (h : Sees w w.heap.size a (byts zs)) (hz : ∀ y ∈ zs, 0 ≤ y ∧ y ≤ 255) :
    Calls Try.prog 3 #[.slice a len cap] w fun e w' => e = .returned (.bool true) ∧ Below w.heap.size w w' := by
  have HE := hid hn
  have HC := hid hcc
  have HZ := hid hz
  clear hn hcc hz
  by_cases hbig : 1048576 < len
  · go_enter Try.func3, Try.ntmps3
    go_wp2
    go_ret
    exact ⟨rfl, Below.refl _ _⟩
  · go_enter Try.func3, Try.ntmps3
    go_wp2_with fail
    refine (drawValidShare_any _ _ _ _ _ h HZ.out HE.out hc (by omega) HC.out).mono ?_
    rintro e w2 ⟨A1, A2, c1, c2, s, rfl, dl⟩
    have hl6 := dl.2.2.2
    replace dl := dl.alloc (.cells #[.int .i64 s.t, .slice A1 s.m.length c1, .slice A2 s.h.length c2] 25)
    have ps := At.new w2 25 #[.int .i64 s.t, .slice A1 s.m.length c1, .slice A2 s.h.length c2]
    rcases hv : shareB s with _ | _
    · skip
      have HV := hid hv
      clear hv
      obtain ⟨ps0, ps1, ps2, psl, psf⟩ := ps.three
      go_wp2_with fail
      with_reducible refine (iValidShare_any s A1 A2 c1 c2 _ dl.sees dl.m4 dl.h4).mono ?_
      rintro e w3 ⟨he, hb⟩
      rw [HV.out] at he
      subst he
      replace dl := dl.below hb
      replace ps := ps.below hb ps.lt
      clear hb
      clear ps0 ps1 ps2 psl psf
      obtain ⟨ps0, ps1, ps2, psl, psf⟩ := ps.three
      go_wp2_with fail
      with_reducible refine (sValidShare_any s A1 A2 c1 c2 _ dl.sees dl.m4 dl.h4).mono ?_
      rintro e w4 ⟨he, hb⟩
      rw [HV.out] at he
      subst he
      replace dl := dl.below hb
      replace ps := ps.below hb ps.lt
      clear hb
      clear ps0 ps1 ps2 psl psf
      obtain ⟨ps0, ps1, ps2, psl, psf⟩ := ps.three
      go_wp2_with fail
      with_reducible refine (sValidShare_any s A1 A2 c1 c2 _ dl.sees dl.m4 dl.h4).mono ?_
      rintro e w5 ⟨he, hb⟩
      rw [HV.out] at he
      subst he
      replace dl := dl.below hb
      replace ps := ps.below hb ps.lt
      clear hb
      clear ps0 ps1 ps2 psl psf
      obtain ⟨ps0, ps1, ps2, psl, psf⟩ := ps.three
      go_wp2
      go_ret
      exact ⟨by first | rfl | (simp; done) | (simp; omega), dl.bel⟩
    · skip
      have HV := hid hv
      have HZ0 := hid (share_zero hv).1
      have hle := (share_zero hv).2
      have HR1 := hid (share_range hv)
      clear hv
      obtain ⟨ps0, ps1, ps2, psl, psf⟩ := ps.three
      go_wp2_with fail
      with_reducible refine (iValidShare_any s A1 A2 c1 c2 _ dl.sees dl.m4 dl.h4).mono ?_
      rintro e w3 ⟨he, hb⟩
      rw [HV.out] at he
      subst he
      replace dl := dl.below hb
      replace ps := ps.below hb ps.lt
      clear hb
      clear ps0 ps1 ps2 psl psf
      obtain ⟨ps0, ps1, ps2, psl, psf⟩ := ps.three
      go_wp2_with fail
      with_reducible refine (sValidShare_any s A1 A2 c1 c2 _ dl.sees dl.m4 dl.h4).mono ?_
      rintro e w4 ⟨he, hb⟩
      rw [HV.out] at he
      subst he
      replace dl := dl.below hb
      replace ps := ps.below hb ps.lt
      clear hb
      clear ps0 ps1 ps2 psl psf
      have hzs : SeesR (w4.alloc (.cells #[.int .i64 0, .int .i64 0, .int .i64 0, .int .i64 0, .int .i64 0] 3)).drew (w4.alloc (.cells #[.int .i64 0, .int .i64 0, .int .i64 0, .int .i64 0, .int .i64 0] 3)).drew.heap.size A1 (some ⟨w4.heap.size, 0, none⟩) ⟨s.t, s.m, [0, 0, 0, 0, 0]⟩ := ⟨((dl.alloc _).drew).seesm, (SeesF.of_at (F := fun _ => False) (At.new w4 3 #[.int .i64 0, .int .i64 0, .int .i64 0, .int .i64 0, .int .i64 0]).drew (by simp)).sees⟩
      have edl := (dl.alloc (.cells #[.int .i64 0, .int .i64 0, .int .i64 0, .int .i64 0, .int .i64 0] 3)).drew
      have eps := (ps.alloc (.cells #[.int .i64 0, .int .i64 0, .int .i64 0, .int .i64 0, .int .i64 0] 3)).drew
      have ddl := dl.drew
      have dps := ps.drew
      obtain ⟨ps0, ps1, ps2, psl, psf⟩ := ps.three
      go_wp2_with fail
      go_region_held3 (fun w' => w'.cell? ⟨w2.heap.size, 0, none⟩ = some (.int .i64 s.t) ∧ w'.cell? ⟨w2.heap.size, 1, none⟩ = some (.slice A1 s.m.length c1) ∧ w'.cell? ⟨w2.heap.size, 2, none⟩ = some (.slice A2 s.h.length c2))
        (first | with_reducible exact ⟨ps0, ps1, ps2⟩ | with_reducible exact ⟨yps0, yps1, yps2⟩ | go_keep)
        (first
          | (go_at_call 10; refine (iValidShare_any ⟨s.t, s.m, [0, 0, 0, 0, 0]⟩ A1 _ c1 5 _ hzs dl.m4 (by show 5 ≤ 4194304; decide)).mono ?_; rintro e wy ⟨he, hb⟩; rw [HZ0.out] at he; subst he; have ydl := edl.below hb; have yps := eps.below hb eps.lt; obtain ⟨yps0, yps1, yps2, ypsl, ypsf⟩ := yps.three)
          | (go_at_call 12; with_reducible refine (lsum_any A2 c2 s.h _ ydl.seesh ydl.h5 HR1.out).mono ?_; rintro e w' ⟨rfl, rfl⟩)
          | fail)
      all_goals
        go_wp2
        go_ret
        exact ⟨by first | rfl | (simp; done) | (simp; omega), ydl.bel⟩
end Go.Proofs.Ytimjalhhigekpaa
