/-
  What the function answers that draws the arguments of BestCache. Condition: the code is at most 2^20 bytes.
-/
import Derived.Test.YtfophplmdljhbaaCaI
import Derived.Test.YtfophplmdljhbaaCaG
import Derived.Test.YtfophplmdljhbaaDraws
import Derived.Maps.AppendAt
namespace Go.Proofs.Ytfophplmdljhbaa
open Go.RowKit Cac

abbrev GC := GLs (α := Rc) 37 2 rccl
theorem cchInfo : (Try.prog.info? 37).map (fun i => (i.zero, i.size, i.bytes)) = some (some (.agg #[.int .i64 0, .slice none 0 0]), 2, 32) := by kernel_rfl
/-- The names of a list's caches, none in the reader's block nor in the list's own. -/
def InC (wr : World) (g : Nat) (v : Value) (R : List Rc) : Prop := ∀ r ∈ R, SeesF wr (fun b => b = g ∨ v.ownBlock = some b) r.A (ints r.m.n) ∧ r.m.n.length ≤ r.c ∧ r.m.n.length ≤ 8
theorem InC.pick {wr w' : World} {g : Nat} {v : Value} {R : List Rc} (h : InC wr g v R) (hg : wr.grownBy w' (some g)) : InC w' g v R := fun r hr => ⟨(h r hr).1.grown hg (fun b e => by injection e with e; exact .inl e.symm), (h r hr).2⟩
theorem InC.alloc {wr : World} {g : Nat} {v : Value} {R : List Rc} (h : InC wr g v R) (o : Obj) : InC (wr.alloc o) g v R := fun r hr => ⟨(h r hr).1.alloc o, (h r hr).2⟩
theorem InC.more {w0 wr w' : World} {g q c' : Nat} {v : Value} {A' : Option Addr} {R : List Rc} {C : Cch} (h : InC wr g v R) (gl : GC w0 wr g q v R) (hg : wr.grownBy w' (some g)) (hS : SeesF w' (fun b => b < wr.heap.size) A' (ints C.n)) (hc : C.n.length ≤ c') (hl : C.n.length ≤ 8) : InC w' g v (R ++ [⟨A', c', C⟩]) := fun r hr => by
  obtain ⟨z1, z2, z3⟩ := gl.lt
  rcases List.mem_append.1 hr with h1 | h1
  · exact h.pick hg r h1
  · rw [List.mem_singleton.1 h1]
    refine ⟨hS.imp fun b _ hF => ?_, hc, hl⟩
    rcases hF with e | e
    · omega
    · exact (gl.own.lt b e).2
theorem InC.snoc {wr w' : World} {g : Nat} {v v' : Value} {R : List Rc} (h : InC wr g v R) (hg : wr.grownBy w' v.ownBlock) (hat : v'.ownBlock = v.ownBlock ∨ v'.ownBlock = some wr.heap.size) : InC w' g v' R := fun r hr => ⟨(h r hr).1.grown_to hg (fun b e => .inr e) (fun b hb hF => hF.imp id (fun e => by
  rcases hat with e1 | e1
  · rw [← e1]; exact e
  · rw [e1] at e; injection e with e; omega)), (h r hr).2⟩
/-- The list and its caches' names, none in the reader's block. -/
def CcF (wr : World) (g : Nat) (A : Option Addr) (R : List Rc) : Prop := SeesF wr (fun b => b = g) A (strip rccl R) ∧ ∀ r ∈ R, SeesF wr (fun b => b = g) r.A (ints r.m.n) ∧ r.m.n.length ≤ r.c ∧ r.m.n.length ≤ 8
theorem CcF.of {w0 wr : World} {g q c : Nat} {A : Option Addr} {R : List Rc} (h : InC wr g (.slice A R.length c) R) (gl : GC w0 wr g q (.slice A R.length c) R) : CcF wr g A R := by
  obtain ⟨z1, z2, z3⟩ := gl.lt
  exact ⟨SeesF.of_row gl.own.out fun b hb1 hb2 hF => by omega, fun r hr => ⟨(h r hr).1.imp fun b _ e => .inl e, (h r hr).2⟩⟩
theorem CcF.grown {wr w' : World} {g : Nat} {A : Option Addr} {R : List Rc} (h : CcF wr g A R) (hg : wr.grownBy w' (some g)) : CcF w' g A R := ⟨h.1.grown hg (fun b e => by injection e with e; exact e.symm), fun r hr => ⟨(h.2 r hr).1.grown hg (fun b e => by injection e with e; exact e.symm), (h.2 r hr).2⟩⟩
theorem CcF.sees {wr : World} {g : Nat} {A : Option Addr} {R : List Rc} (h : CcF wr g A R) : SeesC wr wr.heap.size A R := ⟨h.1.sees, fun r hr => ⟨(h.2 r hr).1.sees, (h.2 r hr).2.1⟩⟩
/-- Caches that were drawn, and names; nothing that was there has changed. -/
def DB (w w' : World) (A : Option Addr) (c : Nat) (rs : List Rc) (A2 : Option Addr) (c2 : Nat) (l : List Int) : Prop :=
  SeesC w' w'.heap.size A rs ∧ Sees w' w'.heap.size A2 (ints l) ∧ Below w.heap.size w w' ∧ (rs.length ≤ 7 ∧ rs.length ≤ c) ∧ (∀ r ∈ rs, r.m.n.length ≤ 8) ∧ l.length ≤ 11 ∧ l.length ≤ c2
def CaDB (w : World) (e : Ending) (w' : World) : Prop := ∃ A c rs A2 c2 l, e = .returned (.tuple #[.slice A (List.length rs) c, .slice A2 (List.length l) c2]) ∧ DB w w' A c rs A2 c2 l
set_option maxHeartbeats 4000000 in
theorem drawBestCache_any (A : Option Addr) (n c : Nat) (zs : List Int) (w : World) (h : Sees w w.heap.size A (byts zs)) (hz : ∀ z ∈ zs, 0 ≤ z ∧ z ≤ 255) (hn : zs.length = n) (hc : n ≤ c) (hm : n ≤ 1048576) (hcc : c ≤ maxLen) :
    Calls Try.prog 13 #[.slice A n c] w (CaDB w) := by
  have HZ := hid hz
  have HE := hid hn
  have HC := hid hcc
  clear hz hn hcc
  obtain ⟨i0, hi0, hz0, hz1, hz2⟩ := info_parts cchInfo
  obtain ⟨j0, hj0, hy0, hy1, hy2⟩ := info_parts intInfo
  go_enter Try.func13, Try.ntmps13
  go_wp2_with fail
  refine (newReader_any A n c zs _ h HZ.out HE.out hc hm HC.out).mono ?_
  rintro e w1 ⟨rfl, hb1, hr1⟩
  obtain ⟨g, hg⟩ : ∃ g, g = w.heap.size := ⟨_, rfl⟩
  simp only [← hg] at hr1 ⊢
  have HG := hid hg
  clear hg
  have hgl := hr1.lt
  have gl1 : GC w1 (w1.alloc (.cells #[] 37)) g 0 (.slice (some ⟨w1.heap.size, 0, none⟩) 0 0) [] := ⟨made_at 37 2 rfl (Nat.le_refl _), hr1.alloc _, grown_of_below ((Below.refl _ _).alloc (Nat.le_refl _) _) _, hgl⟩
  go_wp2_with fail
  refine (one_any g 0 _ 6 _ [3, 4, 2, 1, 0, 7] _ (gl1.alloc _).rd (by omega) (At.newAt 3 _ (by simp)) (by rfl) (by simp; omega) (by rfl) (by omega) (by omega)).mono ?_
  rintro e w2 ⟨x, rfl, hx, hg2, hr2⟩
  have hx' : ∃ k : Nat, x = k ∧ k ≤ 7 := ⟨x.toNat, by simp at hx; omega, by simp at hx; omega⟩
  obtain ⟨k0, rfl, hk0⟩ := hx'
  have gl2 := (gl1.alloc _).pick hg2 hr2
  clear hx hg2 hr2 gl1
  go_wp2
  go_loopw [5, 6] (fun v i wr => ∃ (k q : Nat) (B : Option Addr) (d : Nat) (R : List Rc), i = .int .i64 k ∧ R.length + k ≤ 7 ∧ q ≤ 1 + 30 * R.length ∧ v = .slice B R.length d ∧ GC w1 wr g q (.slice B R.length d) R ∧ Hid (InC wr g (.slice B R.length d) R)) (fun _ i _ => (intOf i).toNat)
  case atStart => exact ⟨k0, 0 + 1, _, _, [], rfl, by simpa using hk0, by simp, rfl, gl2, hid (fun r hr => by cases hr)⟩
  case round =>
    clear gl2
    obtain ⟨k, q, B, d, R, rfl, hk, hq, rfl, gl, HI⟩ := hrel
    obtain ⟨z1, z2, z3⟩ := gl.lt
    by_cases hlt : 0 < k
    · have hi : (0 : Int) < (k : Int) := by omega
      go_wp2_with fail
      refine (anyCache_any g q _ gl.rd (by omega)).mono ?_
      rintro e w3 ⟨C, A3, c3, q3, rfl, hd3, h8, hS3, hg3, hr3, hq3⟩
      have gl3 := gl.pick hg3 hr3
      have HI3 := hid (HI.out.more gl hg3 hS3 hd3 h8)
      obtain ⟨_, z4, z5⟩ := gl3.lt
      clear gl HI hS3 hg3 hr3 hd3 h8
      go_wp2_with (at_builtin; refine wpList_append_own_at _ rfl _ _ 26 rfl (w1.heap.size) 37 i0 (.agg #[.int .i64 0, .slice none 0 0]) 2 32 Try.underlying26 hi0 hz0 hz1 hz2 rfl (by decide) _ _ _ rfl ((gl3.alloc _).own).out ⟨w3.heap.size, 0, none⟩ 1 1 [.int .i64 C.r, .slice A3 C.n.length c3] rfl rfl (by simpa using cells_new (w3) [.int .i64 C.r, .slice A3 C.n.length c3] 37) ?d12 ?d13 ?d14 ?d15 ?_)
      case d12 => simp [Value.oneCell']
      case d13 => unfold maxLen; omega
      case d14 => omega
      try (case d15 => first | omega | (simp; omega) | (simp; done))
      case _ =>
        intro v1 w5 h1 hg5 _ hat
        have gl5 := gl3.snoc (x := ⟨A3, c3, C⟩) h1 hg5
        have HI5 := hid ((HI3.out.alloc _).snoc (v' := v1) hg5 (by rw [World.size_alloc]; exact hat))
        obtain ⟨A5, c5, rfl, _, _, _⟩ := OwnS.form gl5.own
        have e5 : (R ++ [(⟨A3, c3, C⟩ : Rc)]).length = R.length + 1 := by simp
        obtain ⟨R5, hR5⟩ : ∃ R5, R5 = R ++ [(⟨A3, c3, C⟩ : Rc)] := ⟨_, rfl⟩
        rw [← hR5] at gl5 HI5 e5 ⊢
        clear h1 hg5 gl3 hat HI3 hR5
        go_wp2
        go_roundw
        case rel => exact ⟨k - 1, q3, A5, c5, R5, by go_num, by omega, by omega, rfl, gl5, HI5⟩
        case measure => simp [intOf]; omega
    · have hi : ¬ (0 : Int) < (k : Int) := by omega
      have hR7 : R.length ≤ 7 := by omega
      have hcap : R.length ≤ d := by
        obtain ⟨_, _, e', hc2, _, _⟩ := OwnS.form gl.own
        injection e' with _ _ e'
        omega
      have hcf := CcF.of HI.out gl
      have hr2 := gl.rd
      have hg := HG.out
      have hB2 := hb1.trans (below_of_grown gl.grow (B := w.heap.size) (by omega) (by omega))
      have hgw : g < wr.heap.size := hr2.lt
      have HQ := hid hq
      clear hg hq gl HI hk hb1 hr1
      have ho0 : Own (wr.alloc (.cells #[] 3)) wr.heap.size (.slice (some ⟨wr.heap.size, 0, none⟩) 0 0) [] := made_at 3 1 rfl (Nat.le_refl _)
      have hg0 : wr.grownBy (wr.alloc (.cells #[] 3)) (some g) := grown_of_below ((Below.refl _ _).alloc (Nat.le_refl _) _) _
      have hr0 := hr2.alloc (.cells #[] 3)
      obtain ⟨w3, hw3⟩ : ∃ w3, w3 = wr := ⟨_, rfl⟩
      subst hw3
      have HQ1 := hid (show q ≤ 211 by have := HQ.out; omega)
      go_wp2
      clear hi hlt z1 z2 z3
      go_loopw [7, 8] (fun v i wr => ∃ (k p : Nat) (A2 : Option Addr) (c2 : Nat) (ys : List Int), i = .int .i64 k ∧ k ≤ 10 ∧ ys.length ≤ k ∧ p ≤ 211 + k ∧ v = .slice A2 ys.length c2 ∧ Own wr w3.heap.size v ys ∧ Rd wr g p ∧ w3.grownBy wr (some g)) (fun _ i _ => 10 - (intOf i).toNat)
      case atStart => exact ⟨0, q, _, _, [], rfl, by decide, by simp, HQ1.out, rfl, ho0, hr0, hg0⟩
      case round =>
        clear ho0 hr0 hg0 hr2 HQ HQ1
        obtain ⟨k, p, A2, c2, ys, rfl, hk, hyk, hp, rfl, ho, hr, hgr⟩ := hrel
        have hzr := hgr.size
        by_cases hk0 : k < 10
        · have hki : (k : Int) < 10 := by omega
          go_wp2_with fail
          refine (pick_any g p 2 _ hr (by omega)).mono ?_
          rintro e w5 ⟨x, rfl, _, _, hg5, hr5⟩
          have ho5 : Own w5 w3.heap.size (.slice A2 ys.length c2) ys := row_kept ho.out hg5 (fun k hk e => by injection e with e; have := (ho.out.lt k hk).1; omega)
          have hg6 := grown_trans hgr hg5
          have hz5 := hg6.size
          have hlow := ho5.out.lt
          clear ho hr hgr hg5
          rcases hx : (x == 0) with _ | _
          · clear hlow
            go_wp2
            go_roundw
            case rel => exact ⟨k + 1, p + 1, A2, c2, ys, by go_num, by omega, by omega, by omega, rfl, ho5, hr5, hg6⟩
            case measure => simp [intOf]; omega
          · go_wp2_with (at_builtin; refine wpList_append_own _ rfl _ _ 23 rfl w3.heap.size 3 j0 (.int .i64 0) 1 8 Try.underlying23 hj0 hy0 hy1 hy2 rfl (by decide) _ _ _ rfl (own_alloc ho5.out _) ⟨w5.heap.size, 0, none⟩ 1 1 [.int .i64 (k : Int)] rfl rfl (cell_one_new _ _ _) ?c2 ?c3 ?c4 ?c5 ?_)
            case c2 => simp [Value.oneCell']
            case c3 => unfold maxLen; omega
            case c4 => omega
            case c5 => simp; omega
            case _ =>
              intro v6 w6 h6 hg7 _
              have ho6 : Own w6 w3.heap.size v6 (ys ++ [(k : Int)]) := by unfold Own; rw [ints_app, List.length_append]; exact h6
              have hb6 : Below w3.heap.size (w5.alloc (.cells #[.int .i64 (k : Int)] 3)) w6 := (Below.refl _ _).grown hg7 (by simp; omega) (fun q hq => (hlow q hq).1)
              have hr6 := (hr5.alloc (.cells #[.int .i64 (k : Int)] 3)).below hb6 hgw
              have hgw6 := grown_low (grown_trans hg6 (grown_of_below ((Below.refl _ _).alloc (Nat.le_refl _) (.cells #[.int .i64 (k : Int)] 3)) (some g))) hb6 (Nat.le_refl _)
              obtain ⟨A6, c6, rfl, _⟩ := own_form h6
              have e6 : (ys ++ [(k : Int)]).length = ys.length + 1 := by simp
              clear h6 hg7 hb6 hlow ho5 hr5 hg6
              go_wp2
              go_roundw
              case rel => exact ⟨k + 1, p + 1, A6, c6, ys ++ [(k : Int)], by go_num, by omega, by rw [e6]; omega, by omega, by rw [e6], ho6, hr6, hgw6⟩
              case measure => simp [intOf]; omega
        · have hki : ¬ (k : Int) < 10 := by omega
          go_wp2_with fail
          refine (spoil_any g p A2 c2 ys 10 _ (Sees.of_own ho) hr (by omega) (by omega)).mono ?_
          rintro e w5 ⟨A4, c4, zs4, q5, rfl, hc4, hy4, hS4, hg5, hr5, hq5⟩
          have hgg := grown_trans hgr hg5
          have hcf5 := hcf.grown hgg
          have hB5 := hB2.trans (below_of_grown hgg (B := w.heap.size) (by have := HG.out; omega) (by have := hB2.size; omega))
          go_wp2
          go_ret2
          exact ⟨B, d, R, A4, c4, zs4, rfl, hcf5.sees, hS4.sees, hB5, ⟨hR7, hcap⟩, fun r hr => (hcf5.2 r hr).2.2, by omega, hc4⟩

end Go.Proofs.Ytfophplmdljhbaa
