/-
  What copyPool answers, the program's and the model's. Condition: the lists lie in memory.
-/
import Derived.Test.YtehdbllpiokbnaaPlO
import Derived.Deep.RegionHeld3

namespace Go.Proofs.Ytehdbllpiokbnaa
open Go.RowKit Pol

/-- A copy of a pool, which the call itself made. -/
def CopyAns (p : Pl) (w : World) (e : Ending) (w' : World) : Prop := ∃ B1 B2 B3 d1 d2 d3, e = .returned (.agg #[.int .i64 p.mx, .slice B1 p.idle.length d1, .slice B2 p.held.length d2, .slice B3 p.wait.length d3]) ∧ OwnP w' w.heap.size B1 B2 B3 d1 d2 d3 p ∧ Below w.heap.size w w'
set_option maxHeartbeats 4000000 in
theorem icopyPool_any (p : Pl) (A1 A2 A3 : Option Addr) (c1 c2 c3 : Nat) (w : World) (h : SeesP w w.heap.size A1 A2 A3 p) (h1 : p.idle.length ≤ 4194304) (h2 : p.held.length ≤ 4194304) (h3 : p.wait.length ≤ 4194304) :
    Calls Try.prog 101 #[.agg #[.int .i64 p.mx, .slice A1 p.idle.length c1, .slice A2 p.held.length c2, .slice A3 p.wait.length c3]] w (CopyAns p w) := by
  obtain ⟨i0, hi0, hz0, hz1, hz2⟩ := info_parts holdInfo
  have H1 := hid h1
  have H2 := hid h2
  have H3 := hid h3
  clear h1 h2 h3
  have px := (At.new w 30 #[.int .i64 p.mx, .slice A1 p.idle.length c1, .slice A2 p.held.length c2, .slice A3 p.wait.length c3]).alloc (.cells #[.int .i64 0, .slice none 0 0, .slice none 0 0, .slice none 0 0] 30)
  have pr : At ((w.alloc (.cells #[.int .i64 p.mx, .slice A1 p.idle.length c1, .slice A2 p.held.length c2, .slice A3 p.wait.length c3] 30)).alloc (.cells #[.int .i64 0, .slice none 0 0, .slice none 0 0, .slice none 0 0] 30)) (w.heap.size + 1) 30 #[.int .i64 0, .slice none 0 0, .slice none 0 0, .slice none 0 0] := At.newAt _ _ (by simp)
  have hb0 := ((Below.refl w.heap.size w).alloc (Nat.le_refl _) (.cells #[.int .i64 p.mx, .slice A1 p.idle.length c1, .slice A2 p.held.length c2, .slice A3 p.wait.length c3] 30)).alloc (by simp) (.cells #[.int .i64 0, .slice none 0 0, .slice none 0 0, .slice none 0 0] 30)
  obtain ⟨p0, p1, p2, p3, pl⟩ := px.pool
  go_enter Try.func101, Try.ntmps101
  go_wp2
  go_loopw [3, 9] (fun v i wr => ∃ k : Nat, k ≤ p.held.length ∧ i = .int .i64 k ∧ OwnS 91 2 hcells wr (w.heap.size + 2) v (p.held.take k) ∧ At wr w.heap.size 30 #[.int .i64 p.mx, .slice A1 p.idle.length c1, .slice A2 p.held.length c2, .slice A3 p.wait.length c3] ∧ At wr (w.heap.size + 1) 30 #[.int .i64 0, .slice none 0 0, .slice none 0 0, .slice none 0 0] ∧ Below w.heap.size w wr) (fun _ i _ => p.held.length - (intOf i).toNat)
  case atStart => exact ⟨0, Nat.zero_le _, rfl, OwnS.none_ _ _, px, pr, hb0⟩
  case round =>
    clear px pr hb0 p0 p1 p2 p3 pl
    obtain ⟨k, hk, rfl, ho, hpx, hpr, hb⟩ := hrel
    have hn := H2.out
    by_cases hlt : k < p.held.length
    · have hi : (k : Int) < (p.held.length : Int) := by omega
      obtain ⟨b, o, rfl, hbl, e0, e1⟩ := (h.held.below hb).hold hlt
      have hz := hb.size
      have hlr := hpr.lt
      have hbw : b < wr.heap.size := by omega
      have HT : Hid (p.held.take (k + 1) = p.held.take k ++ [p.held[k]]) := hid (List.take_succ_eq_append_getElem hlt)
      obtain ⟨x, hx⟩ : ∃ x, x = p.held[k] := ⟨_, rfl⟩
      rw [← hx] at HT e0 e1
      clear hx
      have hrl : (p.held.take k).length ≤ 4194304 := by simp <;> try omega
      obtain ⟨R, hR⟩ : ∃ R, R = p.held.take k := ⟨_, rfl⟩
      rw [← hR] at HT ho hrl
      clear hR
      go_wp2_with (at_builtin; refine wpList_append_own _ rfl _ _ 28 rfl (w.heap.size + 2) 91 i0 (.agg #[.int .i64 0, .int .i64 0]) 2 16 Try.underlying28 hi0 hz0 hz1 hz2 rfl (by decide) _ _ _ rfl ((ho.alloc _).alloc _).out ⟨wr.heap.size + 1, 0, none⟩ 1 1 [.int .i64 x.c, .int .i64 x.o] rfl rfl (by simpa using cells_new (wr.alloc _) _ _) ?c2 ?c3 ?c4 ?c5 ?_)
      case c2 => simp [Value.oneCell']
      case c3 => unfold maxLen; omega
      case c4 => omega
      case c5 => simp; omega
      case _ =>
        intro v1 w3 h1 hg1 _
        have hlt2 := ho.lt
        have ho1 : OwnS 91 2 hcells w3 (w.heap.size + 2) v1 (R ++ [x]) := by unfold OwnS; rw [strip_snoc, List.length_append]; exact h1
        have hpx1 := ((hpx.alloc (.cells #[.int .i64 x.c, .int .i64 x.o] 91)).alloc (.cells #[.int .i64 x.c, .int .i64 x.o] 91)).grown hg1 (fun e => by have := hlt2 _ e.symm; omega)
        have hpr1 := ((hpr.alloc (.cells #[.int .i64 x.c, .int .i64 x.o] 91)).alloc (.cells #[.int .i64 x.c, .int .i64 x.o] 91)).grown hg1 (fun e => by have := hlt2 _ e.symm; omega)
        have hb1 := ((hb.alloc hz (.cells #[.int .i64 x.c, .int .i64 x.o] 91)).alloc (by simp; omega) (.cells #[.int .i64 x.c, .int .i64 x.o] 91)).grown hg1 (by simp; omega) (fun q hq => by have := hlt2 _ hq; omega)
        clear h1 hg1 hlt2 ho hpx hpr hb
        go_wp2
        go_roundw
        case rel => exact ⟨k + 1, by omega, by go_num, by rw [HT.out]; exact ho1, hpx1, hpr1, hb1⟩
        case measure => simp [intOf]; omega
    · have hi : ¬ (k : Int) < (p.held.length : Int) := by omega
      rw [take_whole hlt] at ho
      have hs := h.on hb
      have hsd := hs.drew
      have hlr := hpr.lt
      have hlx := hpx.lt
      obtain ⟨A5, c5, rfl, _⟩ := ho.form
      have hpxd := hpx.drew
      have hprd := hpr.drew
      have hbd := hb.drew
      have hod := ho.drew
      obtain ⟨p0, p1, p2, p3, pl⟩ := hpx.pool
      go_wp2
      go_region_held3 (fun w' => w'.cell? ⟨w.heap.size, 0, none⟩ = some (.int .i64 p.mx) ∧ w'.cell? ⟨w.heap.size, 1, none⟩ = some (.slice A1 p.idle.length c1) ∧ w'.cell? ⟨w.heap.size, 3, none⟩ = some (.slice A3 p.wait.length c3))
        (first | with_reducible exact ⟨p0, p1, p3⟩ | with_reducible exact ⟨a0, a1, a3⟩ | with_reducible exact ⟨b0, b1, b3⟩ | go_keep)
        (first
          | (go_at_call 83; with_reducible refine (copyNumbers_any A1 c1 p.idle _ hsd.idle H1.out).mono ?_; rintro e wa ⟨va, rfl, hoa, hba⟩; obtain ⟨Aa, ca, rfl, _⟩ := hoa.form; have pxa := hpxd.below hba hpxd.lt; have pra := hprd.below hba hprd.lt; have hsa := hsd.on hba; obtain ⟨a0, a1, a2, a3, al⟩ := pxa.pool)
          | (go_at_call 83; with_reducible refine (copyNumbers_any A3 c3 p.wait _ hsa.wait H3.out).mono ?_; rintro e wb ⟨vb, rfl, hob, hbb⟩; obtain ⟨Ab, cb, rfl, _⟩ := hob.form; have pxb := pxa.below hbb pxa.lt; have prb := pra.below hbb pra.lt; obtain ⟨b0, b1, b2, b3, bl⟩ := pxb.pool; have prc := prb.cell; have prf := prb.frozen)
          | fail)
      all_goals
        have hoh := (hod.below hba).below hbb
        have hza := hba.size
        have hzb := hbb.size
        have hO : OwnP wb (w.heap.size + 2) Aa A5 Ab ca c5 cb p := by
          refine ⟨(hoa.below hbb).mono (by have := hlr; simp; omega), hoh, hob.mono (by simp at hza; omega), far_of (fun q hq => hoa.out.lt q hq) (fun q hq => hod.out.lt q hq) (.inr (Nat.le_refl _)), far_of (fun q hq => hoa.out.lt q hq) (fun q hq => hob.out.lt q hq) (.inl (Nat.le_refl _)), far_of (fun q hq => (hod.below hba).out.lt q hq) (fun q hq => hob.out.lt q hq) (.inl (Nat.le_refl _))⟩
        have hB := (hbd.trans (hba.mono hbd.size)).trans (hbb.mono (by have := hbd.size; omega))
        obtain ⟨hp2, hg2⟩ := pool_put (.int .i64 p.mx) (.slice Aa p.idle.length ca) (.slice A5 p.held.length c5) (.slice Ab p.wait.length cb) prb rfl
        have hO2 := (hO.past prb hg2).mono (show w.heap.size ≤ w.heap.size + 2 by omega)
        have hB2 := below_put hB hg2 (by omega) (by omega)
        go_wp2
        refine bodyPost_ret (v := .agg #[.int .i64 p.mx, .slice Aa p.idle.length ca, .slice A5 p.held.length c5, .slice Ab p.wait.length cb]) (by simp [results, Try.results101, go_sem, hp2.cell]) rfl ⟨_, _, _, _, _, _, rfl, hO2, hB2⟩

end Go.Proofs.Ytehdbllpiokbnaa
