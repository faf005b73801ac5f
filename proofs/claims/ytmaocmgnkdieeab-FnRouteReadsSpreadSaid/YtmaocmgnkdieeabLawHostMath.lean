/-
  Plain facts on hosts for the drawn laws. No condition; nothing of the program's text is used here.
-/
import Derived.Test.YtmaocmgnkdieeabHostMath
namespace Go.Proofs.Ytmaocmgnkdieeab.Hos

theorem hosts_take {l : List Hst} (h : hostsB l = true) {n : Nat} (hn : 1 ≤ n) : hostsB (l.take n) = true := by
  obtain ⟨h1, h2, h3, h4⟩ := hostsB_iff.1 h
  refine hostsB_iff.2 ⟨by rw [List.length_take]; omega, by rw [List.length_take]; omega, fun x hx => h3 x (List.mem_of_mem_take hx), ?_⟩
  rw [lag0_at (by omega)] at h4
  rw [lag0_at (by rw [List.length_take]; omega), List.getElem_take]
  exact h4
theorem hosts_first {l : List Hst} (h : hostsB l = true) (h0 : 0 < l.length) : l[0].g = 0 := by rw [← lag0_at h0]; exact hosts_lag h
theorem route_valid {l : List Hst} {g : Int} (h : 0 ≤ routeH l g) : hostsB l = true ∧ lagB g = true := by
  unfold routeH at h
  split at h
  · assumption
  · omega
theorem route_found {l : List Hst} {g : Int} {k : Nat} (h : routeH l g = k) (hk : k < l.length) : hostsB l = true ∧ lagB g = true ∧ l[k].d = false ∧ l[k].g ≤ g ∧ ∀ i (hi : i < l.length), l[i].d = false → l[i].g ≤ g → l[k].l < l[i].l ∨ (l[k].l = l[i].l ∧ (i = k ∨ i = 0 ∨ (k ≠ 0 ∧ k < i))) := by
  obtain ⟨hv, hg⟩ := route_valid (l := l) (g := g) (by omega)
  rw [routeH_yes hv hg] at h
  rcases bestH_is l g with ⟨e, _⟩ | ⟨j, e, hj, _, he, hb⟩
  · omega
  · have : j = k := by omega
    subst this
    have he' := (el_at hj).1 he
    refine ⟨hv, hg, he'.1, he'.2, fun i hi h1 h2 => ?_⟩
    have := hb i hi ((el_at hi).2 ⟨h1, h2⟩)
    unfold bef at this
    rw [ld_at hj, ld_at hi] at this
    exact this
theorem route_more {l : List Hst} {g : Int} {k : Nat} (h : routeH l g = k) (hk : k < l.length) (hg : g ≠ 1000) : ∃ m : Nat, ∃ hm : m < l.length, routeH l (g + 1) = m ∧ l[m].l ≤ l[k].l := by
  obtain ⟨hv, hlg, hd, hl, _⟩ := route_found h hk
  have hlg2 : lagB (g + 1) = true := lagB_iff.2 (by have := lagB_iff.1 hlg; omega)
  rw [routeH_yes hv hlg2]
  rcases bestH_is l (g + 1) with ⟨_, hn⟩ | ⟨m, e, hm, _, _, hb⟩
  · exact absurd ((el_at hk).2 ⟨hd, by omega⟩) (hn k hk)
  · refine ⟨m, hm, e, ?_⟩
    have := hb k hk ((el_at hk).2 ⟨hd, by omega⟩)
    unfold bef at this
    rw [ld_at hk, ld_at hm] at this
    omega
theorem write_read {l : List Hst} (hv : hostsB l = true) (hd : down0 l = false) : 0 ≤ routeH l 0 := by
  have h1 := (hosts_len hv).1
  rw [routeH_yes hv (by decide)]
  rcases bestH_is l 0 with ⟨_, hn⟩ | ⟨m, e, _⟩
  · refine absurd ((el_at (by omega)).2 ⟨?_, ?_⟩) (hn 0 (by unfold Fst; omega))
    · rw [← down0_at (by omega)]; exact hd
    · rw [hosts_first hv (by omega)]; exact Int.le_refl _
  · omega
/-- All hosts can't be reached. -/
def downs (l : List Hst) : List Hst := l.map fun x => ⟨x.l, x.g, true⟩
theorem downs_len (l : List Hst) : (downs l).length = l.length := by simp [downs]
theorem downs_route (l : List Hst) (g : Int) : routeH (downs l) g = -1 := by
  unfold routeH
  split
  · rcases bestH_is (downs l) g with ⟨e, _⟩ | ⟨m, _, hm, _, he, _⟩
    · exact e
    · have := ((el_at hm).1 he).1
      simp [downs] at this
  · rfl
theorem downs_write (l : List Hst) : writeH (downs l) = -1 := by
  unfold writeH
  split
  · rename_i hh
    have h1 := (hosts_len hh.1).1
    have := hh.2
    rw [down0_at (by omega)] at this
    simp [downs] at this
  · rfl
theorem downs_succ {l : List Hst} {k : Nat} (hk : k < l.length) : downs (l.take (k + 1)) = downs (l.take k) ++ [⟨l[k].l, l[k].g, true⟩] := by
  unfold downs; rw [List.take_succ_eq_append_getElem hk, List.map_append]; rfl
/-- A load is added: what is there, and back. -/
theorem load_yes {l : List Hst} {h d : Int} (hb : loadB l h d = true) : ∃ k : Nat, ∃ _ : k < l.length, h = k ∧ hostsB l = true ∧ -100 ≤ d ∧ d ≤ 100 ∧ hostsB (addTo l k d) = true := by
  have hb' := hb
  unfold loadB at hb
  rw [decide_eq_true_eq] at hb
  obtain ⟨hv, h0, h1, d0, d1, _⟩ := hb
  obtain ⟨k, rfl⟩ : ∃ k : Nat, h = k := ⟨h.toNat, by omega⟩
  have hk : k < l.length := by omega
  exact ⟨k, hk, rfl, hv, d0, d1, by rw [← loadB_at hv hk ⟨d0, d1⟩]; exact hb'⟩
theorem addTo_back (l : List Hst) (k : Nat) (d : Int) : addTo (addTo l k d) k (-d) = l := by
  apply List.ext_getElem
  · rw [addTo_len, addTo_len]
  · intro i h1 h2
    have e := addTo_at (d := d) (k := k) h2
    rw [addTo_at (by rw [addTo_len]; exact h2), e]
    split
    · simp only
      have : l[i].l + d + -d = l[i].l := by omega
      rw [this]
    · rfl
theorem load_back {l : List Hst} {k : Nat} {d : Int} (hb : loadB l k d = true) : loadB (addTo l k d) k (-d) = true ∧ loadL (addTo l k d) k (-d) = l := by
  obtain ⟨j, hj, e, hv, d0, d1, hv'⟩ := load_yes hb
  have : j = k := by omega
  subst this
  have hk' : j < (addTo l j d).length := by rw [addTo_len]; exact hj
  have h2 : loadB (addTo l j d) j (-d) = true := by rw [loadB_at hv' hk' (by omega), addTo_back l j]; exact hv
  exact ⟨h2, by rw [loadL_yes h2, addTo_back l j]⟩
theorem load_at {l : List Hst} {k : Nat} {d : Int} (hv : hostsB l = true) (hk : k < l.length) (hd : -100 ≤ d ∧ d ≤ 100) : loadB l k d = decide (0 ≤ l[k].l + d ∧ l[k].l + d ≤ 100) := by
  rw [loadB_at hv hk hd, addTo_valid hv hk]
/-! Reads. -/
theorem reads_take (l : List Hst) (gs : List Int) (n : Nat) : (reads l gs).take n = reads l (gs.take n) := by
  rcases Nat.lt_or_ge n gs.length with h | h
  · have e := reads_app l (gs.take n) (gs.drop n)
    rw [List.take_append_drop] at e
    rw [e, List.take_append_of_le_length (by rw [reads_len, List.length_take]; omega), List.take_of_length_le (by rw [reads_len, List.length_take]; omega)]
  · rw [List.take_of_length_le h, List.take_of_length_le (by rw [reads_len]; exact h)]
theorem readsL_pos {l : List Hst} {gs : List Int} (h : 0 < (readsL l gs).length) : hostsB l = true ∧ gs.length ≤ 12 ∧ (∀ g ∈ gs, 0 ≤ g ∧ g ≤ 1000) ∧ readsL l gs = reads l gs := by
  by_cases hh : hostsB l = true ∧ gs.length ≤ 12 ∧ ∀ g ∈ gs, 0 ≤ g ∧ g ≤ 1000
  · exact ⟨hh.1, hh.2.1, hh.2.2, readsL_yes hh.1 hh.2.1 hh.2.2⟩
  · rw [readsL_no hh] at h; simp at h
theorem readsL_take {l : List Hst} {gs : List Int} (h : 0 < (readsL l gs).length) (n : Nat) : (readsL l gs).length = gs.length ∧ readsL l (gs.take n) = (readsL l gs).take n := by
  obtain ⟨hv, hn, hg, e⟩ := readsL_pos h
  refine ⟨by rw [e, reads_len], ?_⟩
  rw [e, reads_take, readsL_yes hv (by rw [List.length_take]; omega) fun g hm => hg g (List.mem_of_mem_take hm)]
theorem readsL_first {l : List Hst} {gs : List Int} (h : 0 < (readsL l gs).length) (h0 : 0 < gs.length) : (readsL l gs)[0]'h = routeH l gs[0] ∧ readsL (bump l (routeH l gs[0])) (gs.drop 1) = (readsL l gs).drop 1 := by
  obtain ⟨hv, hn, hg, e⟩ := readsL_pos h
  have hr := routeH_yes hv (lagB_iff.2 (hg _ (List.getElem_mem h0)))
  rw [hr]
  simp only [e]
  match gs, h0 with
  | g :: gs, _ =>
    refine ⟨rfl, ?_⟩
    rw [readsL_yes (bump_valid hv _) (by simp at hn ⊢; omega) fun x hx => hg x (List.mem_of_mem_drop hx)]
    rfl
end Go.Proofs.Ytmaocmgnkdieeab.Hos
