/-
  What the model's GiveAll answers. Condition: the lists lie in memory.
-/
import Derived.Test.YtimjalhhigekpabShH
import Derived.Test.YtimjalhhigekpabShF
import Derived.Test.YtimjalhhigekpabSeesF
import Derived.Deep.RegionLaw
namespace Go.Proofs.Ytimjalhhigekpab
open Go.RowKit Sha

def lenOf : Value → Nat
  | .slice _ n _ => n
  | _ => 0
theorem Sees.from_ {w : World} {B b o : Nat} {l : List Int} (h : Sees w B (some ⟨b, o, none⟩) (ints l)) (k : Nat) : Sees w B (some ⟨b, o + k, none⟩) (ints (l.drop k)) := by
  have e : ints (l.drop k) = (ints l).drop k := by simp [ints]
  rw [e]; exact h.drop rfl
theorem erase_eq (l : List Int) (k : Nat) : l.take k ++ l.drop (k + 1) = l.eraseIdx k := (List.eraseIdx_eq_take_drop_succ l k).symm
theorem SeesF.both {w : World} {F : Nat → Prop} {A1 A2 : Option Addr} {s : Shr} (h1 : SeesF w F A1 (ints s.m)) (h2 : SeesF w F A2 (ints s.h)) : SeesR w w.heap.size A1 A2 s := ⟨h1.sees, h2.sees⟩
/-- The box, and the block of the list of those who got. -/
def Tabu (g : Nat) (v : Value) (b : Nat) : Prop := b = g ∨ v.ownBlock = some b
theorem scopyInts_len {A : Option Addr} {n c : Nat} {xs : List Int} {w : World} (hl : xs.length = n) (h : Sees w w.heap.size A (ints xs)) (hn : xs.length ≤ 4194304) :
    Calls Try.prog 33 #[.slice A n c] w fun e w' => ∃ v, e = .returned v ∧ Own w' w.heap.size v xs ∧ Below w.heap.size w w' := by
  subst hl; exact copyInts_any A c xs w h hn
set_option maxHeartbeats 16000000 in
theorem sGiveAll_any (s : Shr) (asks : List Int) (A1 A2 A3 : Option Addr) (c1 c2 c3 : Nat) (w : World) (h : SeesR w w.heap.size A1 A2 s) (h3 : Sees w w.heap.size A3 (ints asks)) (h1 : s.m.length ≤ 4194304) (h2 : s.h.length ≤ 4194304) (hn : asks.length ≤ 4194304) :
    Calls Try.prog 18 #[.agg #[.int .i64 s.t, .slice A1 s.m.length c1, .slice A2 s.h.length c2], .slice A3 asks.length c3] w fun e w' => ∃ v, e = .returned v ∧ Own w' w.heap.size v (giveA s asks) ∧ Below w.heap.size w w' := by
  obtain ⟨i0, hi0, hz0, hz1, hz2⟩ := info_parts intInfo
  have H1 := hid h1
  have H2 := hid h2
  have HN := hid hn
  have px0 := (At.new w 25 #[.int .i64 s.t, .slice A1 s.m.length c1, .slice A2 s.h.length c2]).alloc (.cells #[] 3)
  have ho0 : Own ((w.alloc (.cells #[.int .i64 s.t, .slice A1 s.m.length c1, .slice A2 s.h.length c2] 25)).alloc (.cells #[] 3)) (w.heap.size + 1) (.slice (some ⟨w.heap.size + 1, 0, none⟩) 0 0) [] := made_at 3 1 (by simp) (Nat.le_refl _)
  have hB0 := ((Below.refl w.heap.size w).alloc (Nat.le_refl _) (.cells #[.int .i64 s.t, .slice A1 s.m.length c1, .slice A2 s.h.length c2] 25)).alloc (by simp) (.cells #[] 3)
  have hs0 := h.on hB0
  clear h1 h2 hn
  rcases hv : shareB s with _ | _
  · have E := hid (giveA_no (s := s) (asks := asks) (by simp [hv]))
    have HV := hid hv
    clear hv px0 ho0
    go_enter Try.func18, Try.ntmps18
    go_wp2_with fail
    with_reducible refine (svalidShare_any s A1 A2 c1 c2 _ hs0 H1.out H2.out).mono ?_
    rintro e w1 ⟨he, hb1⟩
    rw [HV.out] at he
    subst he
    have hB1 := hB0.trans (hb1.mono hB0.size)
    go_wp2
    go_ret
    exact ⟨_, rfl, by rw [E.out]; exact Own.none_ _ _, hB1⟩
  have HV := hid hv
  by_cases hl : (asks.length : Int) > 12
  · have E := hid (giveA_no (s := s) (asks := asks) (fun hh => by have := hh.2.1; omega))
    clear hv px0 ho0
    go_enter Try.func18, Try.ntmps18
    go_wp2_with fail
    with_reducible refine (svalidShare_any s A1 A2 c1 c2 _ hs0 H1.out H2.out).mono ?_
    rintro e w1 ⟨he, hb1⟩
    rw [HV.out] at he
    subst he
    have hB1 := hB0.trans (hb1.mono hB0.size)
    go_wp2
    go_ret
    exact ⟨_, rfl, by rw [E.out]; exact Own.none_ _ _, hB1⟩
  rcases hw : allB asks 0 4 with _ | _
  · have E := hid (giveA_no (s := s) (asks := asks) (fun hh => by rw [allB_iff.2 hh.2.2] at hw; cases hw))
    have HW := hid hw
    clear hv px0 ho0 hw
    go_enter Try.func18, Try.ntmps18
    go_wp2_with fail
    with_reducible refine (svalidShare_any s A1 A2 c1 c2 _ hs0 H1.out H2.out).mono ?_
    rintro e w1 ⟨he, hb1⟩
    rw [HV.out] at he
    subst he
    have hB1 := hB0.trans (hb1.mono hB0.size)
    have hs3 := (h3.below hB1).more hB1.size
    go_wp2_with fail
    with_reducible refine (allIn_any A3 c3 asks 0 4 _ hs3 (Nat.le_trans HN.out (by decide))).mono ?_
    rintro e w' ⟨he, rfl⟩
    rw [HW.out] at he
    subst he
    go_wp2
    go_ret
    exact ⟨_, rfl, by rw [E.out]; exact Own.none_ _ _, hB1⟩
  have HW := hid hw
  have ha : okA asks := ⟨by omega, allB_iff.1 hw⟩
  have HA := hid ha
  have HE := hid (giveA_yes hv ha)
  have HMt := hid (share_m hv)
  have HTt := hid (share_h hv)
  clear hv hw ha
  go_enter Try.func18, Try.ntmps18
  go_wp2_with fail
  with_reducible refine (svalidShare_any s A1 A2 c1 c2 _ hs0 H1.out H2.out).mono ?_
  rintro e w1 ⟨he, hb1⟩
  rw [HV.out] at he
  subst he
  have hB1 := hB0.trans (hb1.mono hB0.size)
  have px1 := px0.below hb1 px0.lt
  have ho1 := ho0.below hb1
  have hs3 := (h3.below hB1).more hB1.size
  clear px0 ho0 hs0 hb1 hB0
  go_wp2_with fail
  with_reducible refine (allIn_any A3 c3 asks 0 4 _ hs3 (Nat.le_trans HN.out (by decide))).mono ?_
  rintro e w' ⟨he, rfl⟩
  rw [HW.out] at he
  subst he
  go_wp2_with fail
  with_reducible refine (copyInts_any A3 c3 asks _ hs3 HN.out).mono ?_
  rintro e w2 ⟨v2, rfl, hl2, hb2⟩
  have hB2 := hB1.trans (hb2.mono hB1.size)
  have px2 := px1.below hb2 px1.lt
  have ho2 := ho1.below hb2
  have hs2 := h.on hB2
  obtain ⟨A4, c4, rfl, hc4, _⟩ := own_form hl2.out
  have hT0 : ∀ b, Tabu w.heap.size (.slice (some ⟨w.heap.size + 1, 0, none⟩) 0 0) b → b = w.heap.size ∨ b = w.heap.size + 1 := fun b hb => by
    rcases hb with e | e
    · exact .inl e
    · refine .inr ?_
      have e2 : some (w.heap.size + 1) = some b := e
      injection e2 with e2; exact e2.symm
  have hz1 : w.heap.size + 2 ≤ w1.heap.size := by have := ho1.out.lt (w.heap.size + 1) rfl; omega
  have hl4 : SeesF w2 (Tabu w.heap.size (.slice (some ⟨w.heap.size + 1, 0, none⟩) 0 0)) A4 (ints asks) := SeesF.of_row hl2.out fun b hb _ hh => by have := hT0 b hh; omega
  have hm4 : SeesF w2 (Tabu w.heap.size (.slice (some ⟨w.heap.size + 1, 0, none⟩) 0 0)) A1 (ints s.m) := SeesF.of_sees ((h.below hB2).most) hB2.size fun b hb hh => by have := hT0 b hh; omega
  have hh4 : SeesF w2 (Tabu w.heap.size (.slice (some ⟨w.heap.size + 1, 0, none⟩) 0 0)) A2 (ints s.h) := SeesF.of_sees ((h.below hB2).has) hB2.size fun b hb hh => by have := hT0 b hh; omega
  obtain ⟨p0, p1, p2, pl, pf⟩ := px2.three
  clear px1 ho1 hs3 hb2 hB1 hT0 hl2
  go_wp2_with fail
  with_reducible refine (sNextOwner_any s asks A1 A2 A4 c1 c2 c4 _ hs2 hl4.sees H1.out H2.out HN.out).mono ?_
  rintro e w3 ⟨rfl, hb3⟩
  have hB3 := hB2.trans (hb3.mono hB2.size)
  have px3 := px2.below hb3 px2.lt
  have ho3 := ho2.below hb3
  have hl5 := hl4.below hb3
  have hm5 := hm4.below hb3
  have hh5 := hh4.below hb3
  clear px2 ho2 hs2 hb3 hB2 hl4 hm4 hh4 p0 p1 p2 pl pf
  go_wp2
  go_loopw [5, 6, 7] (fun vo vl va wr => ∃ (O l' : List Int) (s' : Shr) (B1 B2 Al : Option Addr) (d1 d2 cl : Nat), Own wr (w.heap.size + 1) vo O ∧ vl = .slice Al l'.length cl ∧ va = .int .i64 (nextO s' l') ∧ Hid (l'.length ≤ cl) ∧ At wr w.heap.size 25 #[.int .i64 s'.t, .slice B1 s'.m.length d1, .slice B2 s'.h.length d2] ∧ SeesF wr (Tabu w.heap.size vo) Al (ints l') ∧ SeesF wr (Tabu w.heap.size vo) B1 (ints s'.m) ∧ SeesF wr (Tabu w.heap.size vo) B2 (ints s'.h) ∧ Hid (shareB s' = true) ∧ Hid (okA l') ∧ Hid (giveO s asks = O ++ giveO s' l') ∧ Hid (O.length + l'.length ≤ 12) ∧ Below w.heap.size w wr) (fun _ vl _ _ => lenOf vl)
  case atStart => exact ⟨[], asks, s, A1, A2, A4, c1, c2, c4, ho3, rfl, rfl, hid hc4, px3, hl5, hm5, hh5, hid HV.out, hid HA.out, hid rfl, hid (by have := HA.out.1; simpa using this), hB3⟩
  case round =>
    clear px3 ho3 hl5 hm5 hh5 hB3 hz1
    obtain ⟨O, l', s', B1, B2, Al, d1, d2, cl, ho, rfl, rfl, HCL, px, hsl, hsm, hsh, HV', HA', HG, HOL, hb⟩ := hrel
    have hlo := nextO_lt s' l'
    by_cases hneg : nextO s' l' < 0
    · have hend := give_end HV'.out HA'.out (by omega)
      have E := hid (show giveA s asks = O by rw [HE.out, HG.out, hend, List.append_nil])
      obtain ⟨n, hnn⟩ : ∃ n, n = nextO s' l' := ⟨_, rfl⟩
      rw [← hnn] at hneg hlo ⊢
      clear hnn hend
      go_wp2
      go_ret
      exact ⟨_, rfl, by rw [E.out]; exact ho.mono (by omega), hb⟩
    · obtain ⟨k, hk⟩ : ∃ k : Nat, nextO s' l' = k := ⟨(nextO s' l').toNat, by omega⟩
      obtain ⟨hkl, hst⟩ := give_step HV'.out HA'.out hk
      obtain ⟨_, hgb⟩ := next_give HV'.out HA'.out hk
      have hr := HA'.out.2 _ (List.getElem_mem hkl)
      obtain ⟨j, hj⟩ : ∃ j : Nat, l'[k] = j := ⟨l'[k].toNat, by omega⟩
      rw [hj] at hst hgb hr
      have HYV := hid (giveB_iff.1 hgb).2.2
      have HG' : Hid (giveO s asks = (O ++ [(j : Int)]) ++ giveO (chg s' j 1) (l'.eraseIdx k)) := hid (by rw [HG.out, hst]; simp)
      have HEA := hid (okA_erase HA'.out k)
      have hER := erase_eq l' k
      have hub := share_und HV'.out (o := j) (by omega) (by omega)
      have hum := share_most HV'.out (o := j) (by omega) (by omega)
      have hm5 := share_m HV'.out
      have HM5 := hid (show s'.m.length ≤ 4194304 by omega)
      have HH5 := hid (share_h HV'.out)
      have HGV := hid (fun (w : World) (h : SeesR w w.heap.size B1 B2 s') => give_any s' j 1 B1 B2 d1 d2 w h HM5.out HH5.out (by omega) (by decide) (by omega))
      have hell : (l'.eraseIdx k).length + 1 = l'.length := by rw [List.length_eraseIdx_of_lt hkl]; omega
      have hl12 := HA'.out.1
      have HOL' : Hid ((O ++ [(j : Int)]).length + (l'.eraseIdx k).length ≤ 12) := hid (by have := HOL.out; simp; omega)
      have hO12 : O.length ≤ 12 := by have := HOL.out; omega
      obtain ⟨Y, hY⟩ : ∃ Y, Y = chg s' j 1 := ⟨_, rfl⟩
      obtain ⟨E, hEE⟩ : ∃ E, E = l'.eraseIdx k := ⟨_, rfl⟩
      rw [← hY] at HYV HG' HGV
      rw [← hEE] at HG' HEA hER hell HOL'
      clear hY hEE hst hgb hub hum hm5
      have HYm := hid (show Y.m.length ≤ 4194304 by have := share_m HYV.out; omega)
      have HYh := hid (show Y.h.length ≤ 4194304 by have := share_h HYV.out; omega)
      have HEn := hid (show E.length ≤ 4194304 by omega)
      have HEl2 := hid hell
      rw [hk]
      obtain ⟨b4, o4, rfl, _, e4⟩ := hsl.sees.int hkl
      rw [hj] at e4
      have hki : (k : Int) < (l'.length : Int) := by omega
      have hk0 : (0 : Int) ≤ (k : Int) := by omega
      have hkn : ¬ (k : Int) < 0 := by omega
      have HJ := hid hj
      clear hj hk hell hneg hlo HV' HG HA' hr
      have hz := hb.size
      have hgs := px.lt
      go_wp2_with (at_builtin; refine wpList_append_own_at _ rfl _ _ 23 rfl (w.heap.size + 1) 3 i0 (.int .i64 0) 1 8 Try.underlying23 hi0 hz0 hz1 hz2 rfl (by decide) _ _ _ rfl (ho.alloc4 _).out ⟨wr.heap.size, 0, none⟩ 1 1 [.int .i64 j] rfl rfl (cell_one_new _ _ _) ?c2 ?c3 ?c4 ?c5 ?_)
      case c2 => simp [Value.oneCell']
      case c3 => unfold maxLen; omega
      case c4 => omega
      case _ =>
        intro v3 w3 h1 hg _ hat
        have ho3 : Own w3 (w.heap.size + 1) v3 (O ++ [(j : Int)]) := by unfold Own; rw [ints_app, List.length_append]; exact h1
        have hlow := ho.out.lt
        have hF : ∀ b, b < (wr.alloc (.cells #[.int .i64 j] 3)).heap.size → Tabu w.heap.size v3 b → Tabu w.heap.size u5 b := fun b hb hh => by
          rcases hh with e | e
          · exact .inl e
          · rcases hat with q | q
            · exact .inr (by rw [← q]; exact e)
            · rw [q] at e; injection e with e; subst e; exact absurd hb (by simp)
        have hsl3 := (hsl.alloc (.cells #[.int .i64 j] 3)).grown_to hg (fun b e => .inr e) hF
        have hsm3 := (hsm.alloc (.cells #[.int .i64 j] 3)).grown_to hg (fun b e => .inr e) hF
        have hsh3 := (hsh.alloc (.cells #[.int .i64 j] 3)).grown_to hg (fun b e => .inr e) hF
        have px3 := (px.alloc (.cells #[.int .i64 j] 3)).grown hg (fun e => by have := (hlow _ e.symm).1; omega)
        have hb3 := (hb.alloc hz (.cells #[.int .i64 j] 3)).grown hg (by simp; omega) (fun q hq => by have := (hlow q hq).1; omega)
        clear h1 hg hat hlow hF hsl hsm hsh px hb ho e4 hz
        obtain ⟨p0, p1, p2, pl, pf⟩ := px3.three
        have e4 := (hsl3.sees.int hkl)
        obtain ⟨b5, o5, he5, _, e4⟩ := e4
        obtain ⟨rfl, rfl⟩ : b4 = b5 ∧ o4 = o5 := by injection he5 with he5; injection he5 with u v; exact ⟨u, v⟩
        rw [HJ.out] at e4
        have px3d := px3.drew
        have hsl3d := hsl3.drew
        have hsm3d := hsm3.drew
        have hsh3d := hsh3.drew
        have ho3d := ho3.below (Below.refl _ _).drew
        have hb3d := hb3.drew
        go_upto_region 9 with fail
        go_cut [] from 40 to 45 (fun wx => ∃ (C1 C2 : Option Addr) (f1 f2 : Nat), At wx w.heap.size 25 #[.int .i64 Y.t, .slice C1 Y.m.length f1, .slice C2 Y.h.length f2] ∧ SeesF wx (Tabu w.heap.size v3) (some ⟨b4, o4, none⟩) (ints l') ∧ SeesF wx (Tabu w.heap.size v3) C1 (ints Y.m) ∧ SeesF wx (Tabu w.heap.size v3) C2 (ints Y.h) ∧ Own wx (w.heap.size + 1) v3 (O ++ [(j : Int)]) ∧ Below w.heap.size w wx)
        case first =>
          go_region_law (first
            | (go_simp; go_at_call 32; (with_reducible refine (HGV.out _ (SeesF.both hsm3d hsh3d)).mono ?_); rintro e w5 ⟨C1, C2, f1, f2, rfl, hO5, hb5⟩; have px5 := px3d.below hb5 px3d.lt; have hsl5 := hsl3d.below hb5; have ho5 := ho3d.below hb5; have hB5 := hb3d.trans (hb5.mono hb3d.size); obtain ⟨r0, r1, r2, rl, rf⟩ := px5.three)
            | fail)
          all_goals
            obtain ⟨hp6, hg6⟩ := three_put (.int .i64 Y.t) (.slice C1 Y.m.length f1) (.slice C2 Y.h.length f2) px5 rfl
            have hlow := ho3.out.lt
            have hTb : ∀ b, w3.heap.size ≤ b → b < w5.heap.size → ¬ Tabu w.heap.size v3 b := fun b hb _ hh => by
              rcases hh with e | e
              · omega
              · have := (hlow b e).2; omega
            have hm6 : SeesF w5 (Tabu w.heap.size v3) C1 (ints Y.m) := SeesF.of_row hO5.1.out hTb
            have hh6 : SeesF w5 (Tabu w.heap.size v3) C2 (ints Y.h) := SeesF.of_row hO5.2.1.out hTb
            have hin : ∀ b, some w.heap.size = some b → Tabu w.heap.size v3 b := fun b e => by injection e with e; exact .inl e.symm
            go_wp2_with fail
            go_meet
            exact ⟨C1, C2, f1, f2, hp6, hsl5.grown hg6 hin, hm6.grown hg6 hin, hh6.grown hg6 hin, row_past ho5.out px5 (by decide) hg6, below_put hB5 hg6 (Nat.le_refl _) hB5.size⟩
        case rest =>
          obtain ⟨C1, C2, f1, f2, px6, hsl6, hm6, hh6, ho6, hB6⟩ := hcut
          clear px3 hsl3 hsm3 hsh3 ho3 hb3 px3d hsl3d hsm3d hsh3d ho3d hb3d p0 p1 p2 pl pf e4
          obtain ⟨T, hT⟩ : ∃ T, T = l'.take k := ⟨_, rfl⟩
          have HTK := hid (show T.length = k by rw [hT, List.length_take]; omega)
          have hsT := (hsl6.sees.take k)
          have htk : (ints l').take k = ints T := by rw [hT]; simp [ints]
          rw [htk] at hsT
          rw [← hT] at hER
          clear hT htk
          have hkl' : (k : Int) ≤ (l'.length : Int) := by omega
          have hkc : (k : Int) ≤ (cl : Int) := by have := HCL.out; omega
          have hk12 : k ≤ 12 := by omega
          have hlc : (l'.length : Int) ≤ (cl : Int) := by have := HCL.out; omega
          go_wp2_with fail
          with_reducible refine (scopyInts_len HTK.out hsT (by rw [HTK.out]; omega)).mono ?_
          rintro e w7 ⟨v7, rfl, ho7, hb7⟩
          obtain ⟨A7, c7, rfl, _, _⟩ := own_form ho7.out
          obtain ⟨D, hD⟩ : ∃ D, D = l'.drop (k + 1) := ⟨_, rfl⟩
          rw [← hD] at hER
          obtain ⟨K, hK⟩ : ∃ K, K = k + 1 := ⟨_, rfl⟩
          rw [← hK] at hD
          have HDl := hid (show D.length = l'.length - K by rw [hD]; exact List.length_drop)
          have hsd7 := ((hsl6.below hb7).sees.from_ K)
          rw [← hD] at hsd7
          have hwk : IntKind.i64.wrap ((k : Int) + 1) = (K : Int) := by rw [IntKind.wrap_i64]; omega
          have hK0 : (0 : Int) ≤ (K : Int) := by omega
          have hKl : (K : Int) ≤ (l'.length : Int) := by omega
          have hKc : (K : Int) ≤ (cl : Int) := by have := HCL.out; omega
          have hK13 : K ≤ 13 := by omega
          have hTl : T.length ≤ 12 := by have := HTK.out; omega
          have HER := hid hER
          clear hD hER hK hsT
          by_cases hcl : cl = K
          · subst hcl
            have HD0 := hid (show D = [] from List.eq_nil_of_length_eq_zero (by have := HDl.out; have := HCL.out; omega))
            have HE0 := hid (show T = E by have := HER.out; rw [HD0.out, List.append_nil] at this; exact this)
            have HEl := hid (show E.length = T.length + (l'.length - cl) by rw [HE0.out]; have := HCL.out; omega)
            clear hsd7
            go_wp2_with (at_builtin; refine wpList_append_own _ rfl _ _ 23 rfl wc.heap.size 3 i0 (.int .i64 0) 1 8 Try.underlying23 hi0 hz0 hz1 hz2 rfl (by decide) _ _ _ rfl ho7.out ⟨b4, o4, none⟩ (l'.length - cl) _ [] (by rfl) ?e1 ?en ?e2 ?e3 ?e4 ?e5 ?_)
            case e1 => have := HCL.out; simp; omega
            case en => intro j u hu; simp at hu
            case e2 => intro u hu; simp at hu
            case e3 => unfold maxLen; omega
            case e4 => omega
            case e5 => exact hb7.size
            case _ =>
              intro v8 w8 h8 hg8 _
              obtain ⟨A8, c8, rfl, hc8, _⟩ := own_form h8
              have hl8 := ho7.out.lt
              have hb8 : Below wc.heap.size w7 w8 := (Below.refl _ w7).mono (Nat.le_refl _) |>.mono hb7.size |>.grown hg8 hb7.size (fun q hq => (hl8 q hq).1)
              have hb78 := hb7.trans hb8
              have px8 := px6.below hb78 px6.lt
              have ho8 := ho6.below hb78
              have hm8 := hm6.below hb78
              have hh8 := hh6.below hb78
              have hB8 := hB6.trans (hb78.mono hB6.size)
              have hl8 : w8.ownsRow wc.heap.size 3 1 (.slice A8 (T.length + (l'.length - cl)) c8) E.length (ints E) := by rw [HEl.out]; simpa [HE0.out] using h8
              rw [← HEl.out] at hl8 hc8 ⊢
              have hv8 := ho6.out.lt
              have hsl8 : SeesF w8 (Tabu w.heap.size v3) A8 (ints E) := SeesF.of_row hl8 fun b hb _ hh => by
                rcases hh with e | e
                · have := px6.lt; omega
                · have := (hv8 b e).2; omega
              obtain ⟨t0, t1, t2, tl, tf⟩ := px8.three
              clear h8 hg8 hb7 hb8 hb78 ho7 px6 ho6 hm6 hh6 hB6 hsl6
              go_wp2_with fail
              with_reducible refine (sNextOwner_any Y E C1 C2 A8 f1 f2 c8 _ (SeesF.both hm8 hh8) hsl8.sees HYm.out HYh.out HEn.out).mono ?_
              rintro e w9 ⟨rfl, hb9⟩
              have hc8' := hc8
              go_wp2
              go_roundw
              case rel => exact ⟨O ++ [(j : Int)], E, Y, C1, C2, A8, f1, f2, c8, ho8.below hb9, rfl, rfl, hid hc8', px8.below hb9 px8.lt, hsl8.below hb9, hm8.below hb9, hh8.below hb9, HYV, HEA, HG', HOL', hB8.trans (hb9.mono hB8.size)⟩
              case measure => have := HEl2.out; simp [lenOf]; omega
          · have hcl2 : ¬ K = cl := fun e => hcl e.symm
            have HEl := hid (show E.length = T.length + (l'.length - K) by rw [← HER.out, List.length_append, HDl.out])
            go_wp2_with (at_builtin; refine wpList_append_own _ rfl _ _ 23 rfl wc.heap.size 3 i0 (.int .i64 0) 1 8 Try.underlying23 hi0 hz0 hz1 hz2 rfl (by decide) _ _ _ rfl ho7.out ⟨b4, o4 + K, none⟩ (l'.length - K) (cl - K) (ints D) (by rfl) ?f1 ?fn ?f2 ?f3 ?f4 ?f5 ?_)
            case f1 => rw [ints_len, HDl.out, Nat.mul_one]
            case fn => exact hsd7.add
            case f2 => exact ints_one D
            case f3 => unfold maxLen; omega
            case f4 => omega
            case f5 => exact hb7.size
            case _ =>
              intro v8 w8 h8 hg8 _
              obtain ⟨A8, c8, rfl, hc8, _⟩ := own_form h8
              have hl8 := ho7.out.lt
              have hb8 : Below wc.heap.size w7 w8 := (Below.refl _ w7).mono (Nat.le_refl _) |>.mono hb7.size |>.grown hg8 hb7.size (fun q hq => (hl8 q hq).1)
              have hb78 := hb7.trans hb8
              have px8 := px6.below hb78 px6.lt
              have ho8 := ho6.below hb78
              have hm8 := hm6.below hb78
              have hh8 := hh6.below hb78
              have hB8 := hB6.trans (hb78.mono hB6.size)
              have hl8 : w8.ownsRow wc.heap.size 3 1 (.slice A8 (T.length + (l'.length - K)) c8) E.length (ints E) := by rw [HEl.out, ← HER.out, ints_app]; exact h8
              rw [← HEl.out] at hl8 hc8 ⊢
              have hv8 := ho6.out.lt
              have hsl8 : SeesF w8 (Tabu w.heap.size v3) A8 (ints E) := SeesF.of_row hl8 fun b hb _ hh => by
                rcases hh with e | e
                · have := px6.lt; omega
                · have := (hv8 b e).2; omega
              obtain ⟨t0, t1, t2, tl, tf⟩ := px8.three
              clear h8 hg8 hb7 hb8 hb78 ho7 px6 ho6 hm6 hh6 hB6 hsl6
              go_wp2_with fail
              with_reducible refine (sNextOwner_any Y E C1 C2 A8 f1 f2 c8 _ (SeesF.both hm8 hh8) hsl8.sees HYm.out HYh.out HEn.out).mono ?_
              rintro e w9 ⟨rfl, hb9⟩
              have hc8' := hc8
              go_wp2
              go_roundw
              case rel => exact ⟨O ++ [(j : Int)], E, Y, C1, C2, A8, f1, f2, c8, ho8.below hb9, rfl, rfl, hid hc8', px8.below hb9 px8.lt, hsl8.below hb9, hm8.below hb9, hh8.below hb9, HYV, HEA, HG', HOL', hB8.trans (hb9.mono hB8.size)⟩
              case measure => have := HEl2.out; simp [lenOf]; omega

end Go.Proofs.Ytimjalhhigekpab
