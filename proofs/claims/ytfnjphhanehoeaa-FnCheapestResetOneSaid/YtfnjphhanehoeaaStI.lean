/-
  What the function answers that draws the arguments of CheapestReset. Condition: the code is at most 2^20 bytes.
-/
import Derived.Test.YtfnjphhanehoeaaStG
import Derived.Test.YtfnjphhanehoeaaStF
import Derived.Maps.AppendAt
namespace Go.Proofs.Ytfnjphhanehoeaa
open Go.RowKit Stt

abbrev GR := GLs (α := Rw) 29 1 rwcl
theorem rowInfo : (Try.prog.info? 29).map (fun i => (i.zero, i.size, i.bytes)) = some (some (.slice none 0 0), 1, 24) := by kernel_rfl
/-- The lists of a row, none in the reader's block nor in the row's own. -/
def Inn (wr : World) (g : Nat) (v : Value) (R : List Rw) : Prop := ∀ r ∈ R, SeesF wr (fun b => b = g ∨ v.ownBlock = some b) r.A (strip stcl r.l) ∧ r.l.length ≤ 11
theorem Inn.pick {wr w' : World} {g : Nat} {v : Value} {R : List Rw} (h : Inn wr g v R) (hg : wr.grownBy w' (some g)) : Inn w' g v R := fun r hr => ⟨(h r hr).1.grown hg (fun b e => by injection e with e; exact .inl e.symm), (h r hr).2⟩
theorem Inn.alloc {wr : World} {g : Nat} {v : Value} {R : List Rw} (h : Inn wr g v R) (o : Obj) : Inn (wr.alloc o) g v R := fun r hr => ⟨(h r hr).1.alloc o, (h r hr).2⟩
theorem Inn.more {w0 wr w' : World} {g q q' c' : Nat} {v : Value} {A' : Option Addr} {R : List Rw} {l : List Stg} (h : Inn wr g v R) (gl : GR w0 wr g q v R) (gt : GT wr w' g q' (.slice A' l.length c') l) (hl : l.length ≤ 11) : Inn w' g v (R ++ [⟨A', c', l⟩]) := fun r hr => by
  obtain ⟨z1, z2, z3⟩ := gl.lt
  rcases List.mem_append.1 hr with h1 | h1
  · exact h.pick gt.grow r h1
  · rw [List.mem_singleton.1 h1]
    refine ⟨SeesF.of_row gt.own.out fun b hb1 hb2 hF => ?_, hl⟩
    rcases hF with e | e
    · omega
    · have := (gl.own.lt b e).2; omega
theorem Inn.snoc {wr w' : World} {g : Nat} {v v' : Value} {R : List Rw} (h : Inn wr g v R) (hg : wr.grownBy w' v.ownBlock) (hat : v'.ownBlock = v.ownBlock ∨ v'.ownBlock = some wr.heap.size) : Inn w' g v' R := fun r hr => ⟨(h r hr).1.grown_to hg (fun b e => .inr e) (fun b hb hF => hF.imp id (fun e => by
  rcases hat with e1 | e1
  · rw [← e1]; exact e
  · rw [e1] at e; injection e with e; omega)), (h r hr).2⟩
theorem Inn.seesR {wr : World} {g q c : Nat} {w0 : World} {A : Option Addr} {R : List Rw} (h : Inn wr g (.slice A R.length c) R) (gl : GR w0 wr g q (.slice A R.length c) R) : SeesR wr wr.heap.size A R := ⟨gl.own.sees, fun r hr => (h r hr).1.sees⟩
/-- Lists of settings that were drawn, and one more; nothing that was there has changed. -/
def DR (w w' : World) (A : Option Addr) (c : Nat) (rs : List Rw) (A2 : Option Addr) (_c2 : Nat) (m : List Stg) : Prop :=
  SeesR w' w'.heap.size A rs ∧ Sees w' w'.heap.size A2 (strip stcl m) ∧ Below w.heap.size w w' ∧ (rs.length ≤ 7 ∧ rs.length ≤ c) ∧ (∀ r ∈ rs, r.l.length ≤ 11) ∧ m.length ≤ 11
def StDR (w : World) (e : Ending) (w' : World) : Prop := ∃ A c rs A2 c2 m, e = .returned (.tuple #[.slice A (List.length rs) c, .slice A2 (List.length m) c2]) ∧ DR w w' A c rs A2 c2 m
set_option maxHeartbeats 4000000 in
theorem drawCheapestReset_any (A : Option Addr) (n c : Nat) (zs : List Int) (w : World) (h : Sees w w.heap.size A (byts zs)) (hz : ∀ z ∈ zs, 0 ≤ z ∧ z ≤ 255) (hn : zs.length = n) (hc : n ≤ c) (hm : n ≤ 1048576) (hcc : c ≤ maxLen) :
    Calls Try.prog 14 #[.slice A n c] w (StDR w) := by
  have HZ := hid hz
  have HE := hid hn
  have HC := hid hcc
  clear hz hn hcc
  obtain ⟨i0, hi0, hz0, hz1, hz2⟩ := info_parts rowInfo
  go_enter Try.func14, Try.ntmps14
  go_wp2_with fail
  refine (newReader_any A n c zs _ h HZ.out HE.out hc hm HC.out).mono ?_
  rintro e w1 ⟨rfl, hb1, hr1⟩
  obtain ⟨g, hg⟩ : ∃ g, g = w.heap.size := ⟨_, rfl⟩
  simp only [← hg] at hr1 ⊢
  have HG := hid hg
  clear hg
  have hgl := hr1.lt
  have gl1 : GR w1 (w1.alloc (.cells #[] 29)) g 0 (.slice (some ⟨w1.heap.size, 0, none⟩) 0 0) [] := ⟨made_at 29 1 rfl (Nat.le_refl _), hr1.alloc _, grown_of_below ((Below.refl _ _).alloc (Nat.le_refl _) _) _, hgl⟩
  go_wp2_with fail
  refine (one_any g 0 _ 6 _ [3, 4, 2, 1, 0, 7] _ (gl1.alloc _).rd (by omega) (At.newAt 3 _ (by simp)) (by rfl) (by simp; omega) (by rfl) (by omega) (by omega)).mono ?_
  rintro e w2 ⟨x, rfl, hx, hg2, hr2⟩
  have hx' : ∃ k : Nat, x = k ∧ k ≤ 7 := ⟨x.toNat, by simp at hx; omega, by simp at hx; omega⟩
  obtain ⟨k0, rfl, hk0⟩ := hx'
  have gl2 := (gl1.alloc _).pick hg2 hr2
  clear hx hg2 hr2 gl1
  go_wp2
  go_loopw [5, 6] (fun v i wr => ∃ (k q : Nat) (B : Option Addr) (d : Nat) (R : List Rw), i = .int .i64 k ∧ R.length + k ≤ 7 ∧ q ≤ 1 + 30 * R.length ∧ v = .slice B R.length d ∧ GR w1 wr g q (.slice B R.length d) R ∧ Hid (Inn wr g (.slice B R.length d) R)) (fun _ i _ => (intOf i).toNat)
  case atStart => exact ⟨k0, 0 + 1, _, _, [], rfl, by simpa using hk0, by simp, rfl, gl2, hid (fun r hr => by cases hr)⟩
  case round =>
    clear gl2
    obtain ⟨k, q, B, d, R, rfl, hk, hq, rfl, gl, HI⟩ := hrel
    obtain ⟨z1, z2, z3⟩ := gl.lt
    by_cases hlt : 0 < k
    · have hi : (0 : Int) < (k : Int) := by omega
      go_wp2_with fail
      refine (anySettings_any g q _ gl.rd (by omega)).mono ?_
      rintro e w3 ⟨A3, c3, l, q3, rfl, gt, hl, hq3⟩
      have gl3 := gl.pick gt.grow gt.rd
      have HI3 := hid (HI.out.more gl gt hl)
      obtain ⟨_, z4, z5⟩ := gl3.lt
      clear gl HI gt
      go_wp2_with (at_builtin; refine wpList_append_own_at _ rfl _ _ 27 rfl (w1.heap.size) 29 i0 (.slice none 0 0) 1 24 Try.underlying27 hi0 hz0 hz1 hz2 rfl (by decide) _ _ _ rfl ((gl3.alloc _).own).out ⟨w3.heap.size, 0, none⟩ 1 1 [.slice A3 l.length c3] rfl rfl (cell_one_new _ _ _) ?d12 ?d13 ?d14 ?d15 ?_)
      case d12 => simp [Value.oneCell']
      case d13 => unfold maxLen; omega
      case d14 => omega
      try (case d15 => first | omega | (simp; omega) | (simp; done))
      case _ =>
        intro v1 w5 h1 hg5 _ hat
        have gl5 := gl3.snoc (x := ⟨A3, c3, l⟩) h1 hg5
        have HI5 := hid ((HI3.out.alloc _).snoc (v' := v1) hg5 (by rw [World.size_alloc]; exact hat))
        obtain ⟨A5, c5, rfl, _, _, _⟩ := OwnS.form gl5.own
        have e5 : (R ++ [(⟨A3, c3, l⟩ : Rw)]).length = R.length + 1 := by simp
        obtain ⟨R5, hR5⟩ : ∃ R5, R5 = R ++ [(⟨A3, c3, l⟩ : Rw)] := ⟨_, rfl⟩
        rw [← hR5] at gl5 HI5 e5 ⊢
        clear h1 hg5 gl3 hat HI3 hR5
        go_wp2
        go_roundw
        case rel => exact ⟨k - 1, q3, A5, c5, R5, by go_num, by omega, by omega, rfl, gl5, HI5⟩
        case measure => simp [intOf]; omega
    · have hi : ¬ (0 : Int) < (k : Int) := by omega
      go_wp2_with fail
      refine (anySettings_any g q _ gl.rd (by omega)).mono ?_
      rintro e w3 ⟨A3, c3, m, q3, rfl, gt, hl, hq3⟩
      have gl3 := gl.pick gt.grow gt.rd
      have HI3 := HI.out.pick gt.grow
      have hc2 : R.length ≤ d := by
        obtain ⟨_, _, e', hc2, _, _⟩ := OwnS.form gl3.own
        injection e' with _ _ e'
        omega
      have hg := HG.out
      have hB3 := hb1.trans (below_of_grown gl3.grow (B := w.heap.size) (by omega) (by omega))
      go_wp2
      go_ret2
      exact ⟨B, d, R, A3, c3, m, rfl, HI3.seesR gl3, gt.own.sees, hB3, ⟨by omega, hc2⟩, fun r hr => (HI3 r hr).2, hl⟩

end Go.Proofs.Ytfnjphhanehoeaa
