/-
  How the generator of MostLeased draws, and twins of contracts. Condition: the code lies in memory.
-/
import Derived.Test.YtnkdhkhgfgcloaaSzM
import Derived.Test.YtnkdhkhgfgcloaaSzE
import Derived.Test.YtnkdhkhgfgcloaaLsDraw
import Derived.Test.YtnkdhkhgfgcloaaLawFrame
import Derived.BigQuiet
namespace Go.Proofs.Ytnkdhkhgfgcloaa
open Go.RowKit Lse

theorem most_none {l : List L} (h : mostOf l < 1) : mostOf l < 0 ∨ (mostOf l = 0 ∧ l.length = 0) := by
  rcases hv : validB l with _ | _
  · rw [most_no hv]; omega
  · rw [most_yes hv] at h ⊢
    right
    refine ⟨by omega, ?_⟩
    cases l with
    | nil => rfl
    | cons x l =>
      have h1 := most_ge (l := x :: l) (x := x) List.mem_cons_self
      have h2 := L.ok_iff.1 ((validB_iff.1 hv).2.1 x List.mem_cons_self)
      have h3 : 0 < over (x :: l) x.f := by
        unfold over
        exact List.countP_pos_iff.2 ⟨x, List.mem_cons_self, decide_eq_true (by omega)⟩
      omega
theorem most_valid {l : List L} (h : 1 ≤ mostOf l) : validB l = true := by
  rcases hb : validB l with _ | _
  · rw [most_no hb] at h; omega
  · rfl
theorem most_at {l : List L} (hv : validB l = true) {i : Nat} (hi : i < l.length) : ((busy l l[i].f).length : Int) ≤ mostOf l := by
  rw [most_yes hv, busy_over hv]
  have := most_ge (List.getElem_mem hi)
  omega
theorem busy_most {l : List L} (hv : validB l = true) (t : Int) : ((busy l t).length : Int) ≤ mostOf l := by
  rw [most_yes hv, busy_over hv]
  have := over_any l t
  omega
theorem most_found {l : List L} (hv : validB l = true) (h : 1 ≤ mostOf l) : ∃ i, ∃ hi : i < l.length, i < l.length ∧ ((busy l l[i].f).length : Int) = mostOf l := by
  rw [most_yes hv] at h ⊢
  rcases most_some l with e | ⟨x, hx, e⟩
  · omega
  · obtain ⟨i, hi, rfl⟩ := List.getElem_of_mem hx
    exact ⟨i, hi, hi, by rw [busy_over hv, e]⟩
theorem iMostLeased_len {A : Option Addr} {n c : Nat} {l : List L} {w : World} (hl : l.length = n) (h : Sees w w.heap.size A (lvals l)) (hc : l.length ≤ c) (hn : l.length ≤ 4194304) :
    Calls Try.prog 15 #[.slice A n c] w fun e w' => e = .returned (.int .i64 (mostOf l)) ∧ Below w.heap.size w w' := by
  subst hl; exact iMostLeased_any A c l w h hc hn
set_option maxHeartbeats 1000000 in
theorem drawMostLeased_any (A : Option Addr) (n c : Nat) (zs : List Int) (w : World) (h : Sees w w.heap.size A (byts zs)) (hz : ∀ z ∈ zs, 0 ≤ z ∧ z ≤ 255) (hn : zs.length = n) (hc : n ≤ c) (hm : n ≤ 1048576) (hcc : c ≤ maxLen) :
    Calls Try.prog 21 #[.slice A n c] w (Draw0 w) := by
  have HZ := hid hz
  have HE := hid hn
  have HC := hid hcc
  clear hz hn hcc
  go_enter Try.func21, Try.ntmps21
  go_wp2_with fail
  refine (newReader_any A n c zs _ h HZ.out HE.out hc hm HC.out).mono ?_
  rintro e w1 ⟨rfl, hb1, hr1⟩
  go_wp2_with fail
  refine (anyLeases_any w.heap.size 0 _ hr1 (by omega)).mono ?_
  rintro e w2 ⟨A2, c2, l, q, rfl, ho, hl, hg2, hr2, hq⟩
  have gl : GL w1 w2 w.heap.size q (.slice A2 l.length c2) l := ⟨ho, hr2, hg2, hr1.lt⟩
  go_wp2
  go_ret
  exact ⟨A2, c2, l, rfl, DL.of_gl hb1 gl hl⟩

end Go.Proofs.Ytnkdhkhgfgcloaa
