/-
  Plain facts on hosts: which are valid, which one is read, loads. No condition; nothing of the program's text is used here.
-/
namespace Go.Proofs.Ytmaocmgnkdieeab.Hos

structure Hst where
  l : Int
  g : Int
  d : Bool
deriving DecidableEq

def Hst.ok (x : Hst) : Bool := decide (0 ≤ x.l ∧ x.l ≤ 100 ∧ 0 ≤ x.g ∧ x.g ≤ 1000)
theorem Hst.ok_iff {x : Hst} : x.ok = true ↔ 0 ≤ x.l ∧ x.l ≤ 100 ∧ 0 ≤ x.g ∧ x.g ≤ 1000 := by unfold Hst.ok; simp
def lag0 (l : List Hst) : Int := (l.map Hst.g).getD 0 0
theorem lag0_at {l : List Hst} (h : 0 < l.length) : lag0 l = l[0].g := by simp [lag0, h]
def hostsB (l : List Hst) : Bool := decide (1 ≤ l.length ∧ l.length ≤ 5 ∧ (∀ x ∈ l, x.ok = true) ∧ lag0 l = 0)
theorem hostsB_iff {l : List Hst} : hostsB l = true ↔ 1 ≤ l.length ∧ l.length ≤ 5 ∧ (∀ x ∈ l, x.ok = true) ∧ lag0 l = 0 := by unfold hostsB; simp
theorem hosts_len {l : List Hst} (h : hostsB l = true) : 1 ≤ l.length ∧ l.length ≤ 5 := by obtain ⟨a, b, _⟩ := hostsB_iff.1 h; exact ⟨a, b⟩
theorem hosts_ok {l : List Hst} (h : hostsB l = true) {k : Nat} (hk : k < l.length) : l[k].ok = true := (hostsB_iff.1 h).2.2.1 _ (List.getElem_mem _)
theorem hosts_lag {l : List Hst} (h : hostsB l = true) : lag0 l = 0 := (hostsB_iff.1 h).2.2.2
theorem oks_succ {l : List Hst} {k : Nat} (hk : k < l.length) (h : ∀ x ∈ l.take k, x.ok = true) (hx : l[k].ok = true) : ∀ x ∈ l.take (k + 1), x.ok = true := by
  rw [List.take_succ_eq_append_getElem hk]
  intro x hm
  rcases List.mem_append.1 hm with m | m
  · exact h x m
  · rw [List.mem_singleton.1 m]; exact hx

/-! The host for a read. -/
def elig (x : Hst) (g : Int) : Prop := x.d = false ∧ x.g ≤ g
instance (x : Hst) (g : Int) : Decidable (elig x g) := inferInstanceAs (Decidable (_ ∧ _))
def ld (l : List Hst) (i : Nat) : Int := (l.map Hst.l).getD i 0
theorem ld_at {l : List Hst} {i : Nat} (h : i < l.length) : ld l i = l[i].l := by simp [ld, h]
def el (l : List Hst) (g : Int) (i : Nat) : Prop := ∃ h : i < l.length, elig l[i] g
theorem el_at {l : List Hst} {g : Int} {i : Nat} (h : i < l.length) : el l g i ↔ elig l[i] g := ⟨fun ⟨_, e⟩ => e, fun e => ⟨h, e⟩⟩
/-- k goes before i. -/
def bef (l : List Hst) (k i : Nat) : Prop := ld l k < ld l i ∨ (ld l k = ld l i ∧ (i = k ∨ i = 0 ∨ (k ≠ 0 ∧ k < i)))
/-- n is the best one of those of S. -/
def BestIn (l : List Hst) (g : Int) (S : Nat → Prop) (n : Int) : Prop :=
  (n = -1 ∧ ∀ i, S i → ¬ el l g i) ∨ ∃ k : Nat, n = k ∧ k < l.length ∧ S k ∧ el l g k ∧ ∀ i, S i → el l g i → bef l k i
theorem bef_eq {l : List Hst} {k i : Nat} (h : bef l k i) (h' : bef l i k) : k = i := by
  unfold bef at h h'
  rcases h with h | ⟨_, h⟩
  · rcases h' with h' | ⟨h', _⟩ <;> omega
  · rcases h' with h' | ⟨_, h'⟩
    · omega
    · rcases h with h | h | ⟨h1, h2⟩ <;> rcases h' with h' | h' | ⟨h3, h4⟩ <;> omega
theorem best_one {l : List Hst} {g : Int} {S : Nat → Prop} {n m : Int} (h : BestIn l g S n) (h' : BestIn l g S m) : n = m := by
  rcases h with ⟨rfl, h⟩ | ⟨k, rfl, _, hs, he, h⟩
  · rcases h' with ⟨rfl, _⟩ | ⟨k', rfl, _, hs', he', _⟩
    · rfl
    · exact absurd he' (h _ hs')
  · rcases h' with ⟨rfl, h'⟩ | ⟨k', rfl, _, hs', he', h'⟩
    · exact absurd he (h' _ hs)
    · rw [bef_eq (h k' hs' he') (h' k hs he)]
theorem best_nil (l : List Hst) (g : Int) {S : Nat → Prop} (h : ∀ i, ¬ S i) : BestIn l g S (-1) := .inl ⟨rfl, fun i hi => absurd hi (h i)⟩
theorem bef_trans {l : List Hst} {a b c : Nat} (h : bef l a b) (h' : bef l b c) : bef l a c := by
  unfold bef at h h' ⊢
  rcases h with h | ⟨h, h1⟩
  · rcases h' with h' | ⟨h', _⟩ <;> exact .inl (by omega)
  · rcases h' with h' | ⟨h', h2⟩
    · exact .inl (by omega)
    · exact .inr ⟨by omega, by rcases h1 with e | e | ⟨e, e'⟩ <;> rcases h2 with f | f | ⟨f, f'⟩ <;> omega⟩
/-- One more is looked at: it isn't read. -/
theorem best_skip {l : List Hst} {g : Int} {S S' : Nat → Prop} {n : Int} {j : Nat} (h : BestIn l g S n) (hS : ∀ i, S' i ↔ S i ∨ i = j) (hj : ¬ el l g j ∨ ∃ k : Nat, n = k ∧ bef l k j) : BestIn l g S' n := by
  rcases h with ⟨rfl, h⟩ | ⟨k, rfl, hk, hs, he, h⟩
  · rcases hj with hj | ⟨k, e, _⟩
    · refine .inl ⟨rfl, fun i hi => ?_⟩
      rcases (hS i).1 hi with e | e
      · exact h i e
      · rw [e]; exact hj
    · omega
  · refine .inr ⟨k, rfl, hk, (hS k).2 (.inl hs), he, fun i hi hei => ?_⟩
    rcases (hS i).1 hi with e | e
    · exact h i e hei
    · subst e
      rcases hj with hj | ⟨k', e, hb⟩
      · exact absurd hei hj
      · have : k' = k := by omega
        subst this; exact hb
/-- One more is looked at: it is the best one now. -/
theorem best_take {l : List Hst} {g : Int} {S S' : Nat → Prop} {n : Int} {j : Nat} (h : BestIn l g S n) (hS : ∀ i, S' i ↔ S i ∨ i = j) (hj : el l g j) (hb : ∀ k : Nat, n = k → bef l j k) : BestIn l g S' (j : Int) := by
  have hjl := hj.1
  refine .inr ⟨j, rfl, hjl, (hS j).2 (.inr rfl), hj, fun i hi hei => ?_⟩
  rcases (hS i).1 hi with e | e
  · rcases h with ⟨rfl, h⟩ | ⟨k, rfl, hk, hs, he, h⟩
    · exact absurd hei (h i e)
    · exact bef_trans (hb k rfl) (h i e hei)
  · subst e; exact .inr ⟨rfl, .inl rfl⟩
/-- The first k. -/
def Fst (k : Nat) (i : Nat) : Prop := i < k
theorem fst_succ (k i : Nat) : Fst (k + 1) i ↔ Fst k i ∨ i = k := by unfold Fst; omega
/-- Those that are looked at in k rounds that begin with 1 and end with 0. -/
def Rnd (n k : Nat) (i : Nat) : Prop := (1 ≤ i ∧ i ≤ k ∧ i < n) ∨ (i = 0 ∧ n ≤ k)
theorem rnd_succ {n k : Nat} (hk : k < n) (i : Nat) : Rnd n (k + 1) i ↔ Rnd n k i ∨ i = (k + 1) % n := by
  unfold Rnd
  rcases Nat.lt_or_ge (k + 1) n with h | h
  · rw [Nat.mod_eq_of_lt h]; omega
  · have e : k + 1 = n := by omega
    rw [e, Nat.mod_self]; omega
theorem best_all {l : List Hst} {g : Int} {S S' : Nat → Prop} {n : Int} (h : BestIn l g S n) (hS : ∀ i, i < l.length → (S i ↔ S' i)) : BestIn l g S' n := by
  rcases h with ⟨rfl, h⟩ | ⟨k, rfl, hk, hs, he, h⟩
  · exact .inl ⟨rfl, fun i hi hei => h i ((hS i hei.1).2 hi) hei⟩
  · exact .inr ⟨k, rfl, hk, (hS k hk).1 hs, he, fun i hi hei => h i ((hS i hei.1).2 hi) hei⟩
theorem best_rnd {l : List Hst} {g : Int} {n : Int} (h : BestIn l g (Rnd l.length l.length) n) : BestIn l g (Fst l.length) n :=
  best_all h fun i hi => by unfold Rnd Fst; omega
theorem best_some (l : List Hst) (g : Int) : ∀ k, ∃ n, BestIn l g (Fst k) n
  | 0 => ⟨-1, best_nil l g fun i => by unfold Fst; omega⟩
  | k + 1 => by
    obtain ⟨n, h⟩ := best_some l g k
    by_cases hj : el l g k
    · by_cases hb : ∃ m : Nat, n = m ∧ bef l m k
      · exact ⟨n, best_skip h (fst_succ k) (.inr hb)⟩
      · refine ⟨k, best_take h (fst_succ k) hj fun m hm => ?_⟩
        have : ¬ bef l m k := fun hh => hb ⟨m, hm, hh⟩
        unfold bef at this ⊢
        omega
    · exact ⟨n, best_skip h (fst_succ k) (.inl hj)⟩
noncomputable def bestH (l : List Hst) (g : Int) : Int := (best_some l g l.length).choose
theorem bestH_is (l : List Hst) (g : Int) : BestIn l g (Fst l.length) (bestH l g) := (best_some l g l.length).choose_spec
theorem bestH_eq {l : List Hst} {g : Int} {n : Int} (h : BestIn l g (Fst l.length) n) : bestH l g = n := best_one (bestH_is l g) h
theorem bestH_eq' {l : List Hst} {g : Int} {n : Int} (h : BestIn l g (Rnd l.length l.length) n) : bestH l g = n := bestH_eq (best_rnd h)
/-- The rule of the model. -/
theorem bef_rule {l : List Hst} {k j : Nat} (hkj : k < j) : bef l j k ↔ ld l j < ld l k ∨ (ld l j = ld l k ∧ k = 0) := by unfold bef; omega
theorem not_bef {l : List Hst} {k j : Nat} : ¬ bef l j k → bef l k j := by unfold bef; omega
theorem best_lt {l : List Hst} {g : Int} {S : Nat → Prop} {n : Int} (h : BestIn l g S n) : -1 ≤ n ∧ n < l.length := by
  rcases h with ⟨rfl, _⟩ | ⟨k, rfl, hk, _⟩ <;> omega
theorem best_in {l : List Hst} {g : Int} {S : Nat → Prop} {k : Nat} (h : BestIn l g S (k : Int)) : S k ∧ k < l.length := by
  rcases h with ⟨e, _⟩ | ⟨j, e, hk, hs, _⟩
  · omega
  · have : k = j := by omega
    subst this; exact ⟨hs, hk⟩

def lagB (g : Int) : Bool := decide (0 ≤ g ∧ g ≤ 1000)
theorem lagB_iff {g : Int} : lagB g = true ↔ 0 ≤ g ∧ g ≤ 1000 := by unfold lagB; simp
noncomputable def routeH (l : List Hst) (g : Int) : Int := if hostsB l = true ∧ lagB g = true then bestH l g else -1
theorem routeH_yes {l : List Hst} {g : Int} (h : hostsB l = true) (hg : lagB g = true) : routeH l g = bestH l g := if_pos ⟨h, hg⟩
theorem routeH_no {l : List Hst} {g : Int} (h : hostsB l = false ∨ lagB g = false) : routeH l g = -1 := if_neg fun ⟨a, b⟩ => by rcases h with h | h <;> simp_all
theorem routeH_lt (l : List Hst) (g : Int) : -1 ≤ routeH l g ∧ routeH l g < l.length := by
  unfold routeH
  split
  · exact best_lt (bestH_is l g)
  · omega
def down0 (l : List Hst) : Bool := (l.map Hst.d).getD 0 false
theorem down0_at {l : List Hst} (h : 0 < l.length) : down0 l = l[0].d := by simp [down0, h]
def writeH (l : List Hst) : Int := if hostsB l = true ∧ down0 l = false then 0 else -1
theorem writeH_yes {l : List Hst} (h : hostsB l = true) (hd : down0 l = false) : writeH l = 0 := if_pos ⟨h, hd⟩
theorem writeH_no {l : List Hst} (h : hostsB l = false ∨ down0 l = true) : writeH l = -1 := if_neg fun ⟨a, b⟩ => by rcases h with h | h <;> simp_all

/-! Loads. -/
def addTo (l : List Hst) (k : Nat) (d : Int) : List Hst := l.modify k fun x => ⟨x.l + d, x.g, x.d⟩
theorem addTo_len (l : List Hst) (k : Nat) (d : Int) : (addTo l k d).length = l.length := by simp [addTo]
theorem addTo_at {l : List Hst} {k : Nat} {d : Int} {i : Nat} (hi : i < l.length) : (addTo l k d)[i]'(by rw [addTo_len]; exact hi) = if k = i then ⟨l[i].l + d, l[i].g, l[i].d⟩ else l[i] := by
  simp only [addTo, List.getElem_modify]
theorem addTo_set {l : List Hst} {k : Nat} (hk : k < l.length) (d : Int) : addTo l k d = l.set k ⟨l[k].l + d, l[k].g, l[k].d⟩ := by
  apply List.ext_getElem
  · simp [addTo]
  · intro i h1 h2
    rw [addTo_at (by rw [addTo_len] at h1; exact h1), List.getElem_set]
    split
    · rename_i e; subst e; rfl
    · rfl
theorem addTo_lag (l : List Hst) (k : Nat) (d : Int) : (addTo l k d).map Hst.g = l.map Hst.g := by
  apply List.ext_getElem
  · simp [addTo]
  · intro i h1 h2
    have hi : i < l.length := by simpa using h2
    rw [List.getElem_map, List.getElem_map, addTo_at hi]
    split <;> rfl
theorem addTo_down (l : List Hst) (k : Nat) (d : Int) : (addTo l k d).map Hst.d = l.map Hst.d := by
  apply List.ext_getElem
  · simp [addTo]
  · intro i h1 h2
    have hi : i < l.length := by simpa using h2
    rw [List.getElem_map, List.getElem_map, addTo_at hi]
    split <;> rfl
theorem addTo_valid {l : List Hst} (h : hostsB l = true) {k : Nat} (hk : k < l.length) (d : Int) : hostsB (addTo l k d) = decide (0 ≤ l[k].l + d ∧ l[k].l + d ≤ 100) := by
  obtain ⟨h1, h2, h3, h4⟩ := hostsB_iff.1 h
  rw [Bool.eq_iff_iff, hostsB_iff, decide_eq_true_eq]
  have hlag : lag0 (addTo l k d) = 0 := by unfold lag0; rw [addTo_lag]; exact h4
  constructor
  · rintro ⟨_, _, h5, _⟩
    have := h5 _ (List.getElem_mem (show k < (addTo l k d).length by rw [addTo_len]; exact hk))
    rw [addTo_at hk, if_pos rfl, Hst.ok_iff] at this
    exact ⟨this.1, this.2.1⟩
  · rintro ⟨h5, h6⟩
    refine ⟨by rw [addTo_len]; exact h1, by rw [addTo_len]; exact h2, fun x hx => ?_, hlag⟩
    obtain ⟨i, hi, rfl⟩ := List.getElem_of_mem hx
    rw [addTo_len] at hi
    have hok := Hst.ok_iff.1 (h3 _ (List.getElem_mem hi))
    rw [addTo_at hi]
    split
    · rename_i e; subst e; exact Hst.ok_iff.2 ⟨h5, h6, hok.2.2⟩
    · exact Hst.ok_iff.2 hok
/-- The host h can have d more. -/
def loadB (l : List Hst) (h d : Int) : Bool := decide (hostsB l = true ∧ 0 ≤ h ∧ h < l.length ∧ -100 ≤ d ∧ d ≤ 100 ∧ 0 ≤ ld l h.toNat + d ∧ ld l h.toNat + d ≤ 100)
def loadL (l : List Hst) (h d : Int) : List Hst := if loadB l h d = true then addTo l h.toNat d else []
theorem loadL_len (l : List Hst) (h d : Int) : (loadL l h d).length ≤ l.length := by
  unfold loadL
  split
  · rw [addTo_len]; exact Nat.le_refl _
  · exact Nat.zero_le _
theorem loadB_at {l : List Hst} (hv : hostsB l = true) {k : Nat} (hk : k < l.length) {d : Int} (hd : -100 ≤ d ∧ d ≤ 100) : loadB l k d = hostsB (addTo l k d) := by
  rw [addTo_valid hv hk, Bool.eq_iff_iff]
  unfold loadB
  rw [decide_eq_true_eq, decide_eq_true_eq, Int.toNat_natCast, ld_at hk]
  constructor
  · rintro ⟨_, _, _, _, _, a, b⟩; exact ⟨a, b⟩
  · rintro ⟨a, b⟩; exact ⟨hv, by omega, by omega, hd.1, hd.2, a, b⟩
theorem loadL_yes {l : List Hst} {k : Nat} {d : Int} (h : loadB l k d = true) : loadL l k d = addTo l k d := by unfold loadL; rw [if_pos h, Int.toNat_natCast]
theorem loadL_no {l : List Hst} {h d : Int} (hn : loadB l h d = false) : loadL l h d = [] := by unfold loadL; rw [if_neg (by simp [hn])]
theorem loadB_no {l : List Hst} {h d : Int} (hn : hostsB l = false ∨ h < 0 ∨ (l.length : Int) ≤ h ∨ d < -100 ∨ 100 < d) : loadB l h d = false := by
  unfold loadB
  rw [decide_eq_false_iff_not]
  rintro ⟨a, b, c, d, e, _⟩
  rcases hn with hn | hn | hn | hn | hn
  · simp [hn] at a
  · omega
  · omega
  · omega
  · omega

/-! Several reads. -/
def bump (l : List Hst) (n : Int) : List Hst := if loadB l n 1 = true then addTo l n.toNat 1 else l
theorem bump_len (l : List Hst) (n : Int) : (bump l n).length = l.length := by
  unfold bump
  split
  · exact addTo_len _ _ _
  · rfl
theorem bump_valid {l : List Hst} (h : hostsB l = true) (n : Int) : hostsB (bump l n) = true := by
  unfold bump
  split
  · rename_i hb
    have hb' := hb
    unfold loadB at hb
    rw [decide_eq_true_eq] at hb
    obtain ⟨k, rfl⟩ : ∃ k : Nat, n = k := ⟨n.toNat, by omega⟩
    rw [Int.toNat_natCast, ← loadB_at h (by omega) (by omega)]
    exact hb'
  · exact h
noncomputable def reads (l : List Hst) : List Int → List Int
  | [] => []
  | g :: gs => bestH l g :: reads (bump l (bestH l g)) gs
/-- The hosts behind some reads. -/
noncomputable def after (l : List Hst) : List Int → List Hst
  | [] => l
  | g :: gs => after (bump l (bestH l g)) gs
theorem reads_len : ∀ (l : List Hst) (gs : List Int), (reads l gs).length = gs.length
  | _, [] => rfl
  | _, _ :: gs => by simp [reads, reads_len _ gs]
theorem reads_app : ∀ (l : List Hst) (gs hs : List Int), reads l (gs ++ hs) = reads l gs ++ reads (after l gs) hs
  | _, [], _ => rfl
  | l, g :: gs, hs => by simp [reads, after, reads_app _ gs hs]
theorem after_app : ∀ (l : List Hst) (gs hs : List Int), after l (gs ++ hs) = after (after l gs) hs
  | _, [], _ => rfl
  | l, g :: gs, hs => by simp [after, after_app _ gs hs]
theorem after_len : ∀ (l : List Hst) (gs : List Int), (after l gs).length = l.length
  | _, [] => rfl
  | _, _ :: gs => by rw [after, after_len _ gs, bump_len]
theorem after_valid : ∀ {l : List Hst} (_ : hostsB l = true) (gs : List Int), hostsB (after l gs) = true
  | _, h, [] => h
  | _, h, _ :: gs => after_valid (bump_valid h _) gs
theorem reads_succ {l : List Hst} {gs : List Int} {k : Nat} (hk : k < gs.length) : reads l (gs.take (k + 1)) = reads l (gs.take k) ++ [bestH (after l (gs.take k)) gs[k]] := by
  rw [List.take_succ_eq_append_getElem hk, reads_app]; rfl
theorem after_succ {l : List Hst} {gs : List Int} {k : Nat} (hk : k < gs.length) : after l (gs.take (k + 1)) = bump (after l (gs.take k)) (bestH (after l (gs.take k)) gs[k]) := by
  rw [List.take_succ_eq_append_getElem hk, after_app]; rfl
def lagsB (gs : List Int) : Bool := decide (∀ g ∈ gs, 0 ≤ g ∧ g ≤ 1000)
noncomputable def readsL (l : List Hst) (gs : List Int) : List Int := if hostsB l = true ∧ gs.length ≤ 12 ∧ ∀ g ∈ gs, 0 ≤ g ∧ g ≤ 1000 then reads l gs else []
theorem readsL_yes {l : List Hst} {gs : List Int} (h : hostsB l = true) (hn : gs.length ≤ 12) (hg : ∀ g ∈ gs, 0 ≤ g ∧ g ≤ 1000) : readsL l gs = reads l gs := if_pos ⟨h, hn, hg⟩
theorem readsL_no {l : List Hst} {gs : List Int} (h : ¬ (hostsB l = true ∧ gs.length ≤ 12 ∧ ∀ g ∈ gs, 0 ≤ g ∧ g ≤ 1000)) : readsL l gs = [] := if_neg h
theorem readsL_len (l : List Hst) (gs : List Int) : (readsL l gs).length ≤ gs.length := by
  unfold readsL
  split
  · rw [reads_len]; exact Nat.le_refl _
  · exact Nat.zero_le _
/-- The model's way: the load grows by 1, but not over 100. -/
theorem bump_min {l : List Hst} (h : hostsB l = true) {k : Nat} (hk : k < l.length) : bump l k = l.set k ⟨min 100 (l[k].l + 1), l[k].g, l[k].d⟩ := by
  have hok := Hst.ok_iff.1 (hosts_ok h hk)
  unfold bump
  rw [Int.toNat_natCast]
  split
  · rename_i hb
    unfold loadB at hb
    rw [decide_eq_true_eq, Int.toNat_natCast, ld_at hk] at hb
    rw [addTo_set hk, Int.min_eq_right (by omega)]
  · rename_i hb
    have : ¬ (l[k].l + 1 ≤ 100) := fun hh => hb (by rw [loadB_at h hk (by omega), addTo_valid h hk]; exact decide_eq_true ⟨by omega, hh⟩)
    rw [Int.min_eq_left (by omega)]
    have e : (⟨100, l[k].g, l[k].d⟩ : Hst) = l[k] := by
      have : l[k].l = 100 := by omega
      rw [← this]
    rw [e, List.set_getElem_self]
theorem bump_none (l : List Hst) : bump l (-1) = l := by
  unfold bump
  rw [if_neg]
  unfold loadB
  simp
end Go.Proofs.Ytmaocmgnkdieeab.Hos
