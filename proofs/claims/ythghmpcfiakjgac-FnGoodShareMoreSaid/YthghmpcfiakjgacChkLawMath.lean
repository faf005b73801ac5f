/-
  Plain facts that the laws on checks rest on. No condition.
-/
import Derived.Test.YthghmpcfiakjgacChkD
import Derived.Test.YthghmpcfiakjgacChkGen
import Derived.Test.YthghmpcfiakjgacXGen
namespace Go.Proofs.Ythghmpcfiakjgac
open Go.RowKit Chk

theorem getD_b {l : List Bool} {k : Nat} (h : k < l.length) : l.getD k false = l[k] := by simp [List.getD_eq_getElem?_getD, h]
theorem last_cases (l : List Bool) (h : 1 ≤ lastRun l) : l.length ≤ 12 ∧ lastRun l = (run l : Int) ∧ run l ≤ l.length := by
  unfold lastRun at h ⊢
  split at h
  · rename_i h12
    rw [if_pos h12]
    exact ⟨h12, rfl, run_le l⟩
  · omega
theorem same_run {l : List Bool} {j : Nat} (h1 : l.length - run l ≤ j) (h2 : j < l.length) : l[j] = l.getD (l.length - 1) false := by
  have hr := run_le l
  have := (run_get (l := l)).1 (l.length - 1 - j) (by omega)
  rw [show l.length - 1 - (l.length - 1 - j) = j by omega] at this
  rw [← this, getD_b h2]
theorem prev_run {l : List Bool} (h : ¬ run l = l.length) (j : Nat) (hj : j = l.length - 1 - run l) : l.getD j false ≠ l.getD (l.length - 1) false := by
  subst hj
  exact (run_get (l := l)).2.resolve_left h
theorem Sees.bdrop {w : World} {B : Nat} {A : Option Addr} {l : List Bool} (h : Sees w B A (boos l)) {k b o : Nat} (e : A = some ⟨b, o, none⟩) : Sees w B (some ⟨b, o + k, none⟩) (boos (l.drop k)) := by
  have e2 : boos (l.drop k) = (boos l).drop k := by simp [boos]
  rw [e2]; exact h.drop e
theorem chk_of_nil {l : List Bool} {f g : Int} (h : goodB [] f g = true) (hl : l.length ≤ 12) : chkB l f g = true := by
  unfold goodB at h
  rw [Bool.and_eq_true] at h
  exact chkB_iff.2 ⟨hl, (chkB_iff.1 h.1).2⟩
/-- The last check decides. -/
theorem good_law {l : List Bool} {f g : Int} (h : goodB [] f g = true) (h1 : 1 ≤ lastRun l) : (l.getD (l.length - 1) false = true → g ≤ lastRun l → goodB l f g = true) ∧ (l.getD (l.length - 1) false = false → f ≤ lastRun l → goodB l f g = false) := by
  obtain ⟨h12, hr, hle⟩ := last_cases l h1
  have hc := chk_of_nil h h12
  rw [good_last hc (by omega), hr]
  exact ⟨fun a b => by rw [if_pos a, if_pos b], fun a b => by rw [if_neg (by rw [a]; simp), if_pos b]⟩
/-- A short run changes nothing. -/
theorem good_step {l : List Bool} {f g : Int} (h : goodB [] f g = true) (h1 : 1 ≤ lastRun l) : (l.getD (l.length - 1) false = true → lastRun l < g → goodB l f g = goodB (l.take (l.length - 1)) f g) ∧ (l.getD (l.length - 1) false = false → lastRun l < f → goodB l f g = goodB (l.take (l.length - 1)) f g) := by
  obtain ⟨h12, hr, hle⟩ := last_cases l h1
  have hc := chk_of_nil h h12
  rw [good_last hc (by omega), hr]
  exact ⟨fun a b => by rw [if_pos a, if_neg (by omega)], fun a b => by rw [if_neg (by rw [a]; simp), if_neg (by omega)]⟩
theorem good_all {l : List Bool} {f g : Int} (h : goodB [] f g = true) (hl : l.length ≤ 12) (ha : ∀ k, k < l.length → l.getD k false = true) : goodB l f g = true := by
  rw [good_yes (chk_of_nil h hl), gst_all ha _ (Nat.le_refl _)]
theorem all_good {f g : Int} {m : Nat} (h : goodB [] f g = true) (hm : m ≤ 12) : goodB (List.replicate m true) f g = true :=
  good_all h (by simpa using hm) fun k hk => by
    have hk' : k < m := by simpa using hk
    simp [List.getD_eq_getElem?_getD, hk']
/-- An append onto a later list of the call's own leaves what was drawn. -/
theorem dl_app {w w1 wr w5 : World} {A : Option Addr} {c : Nat} {l : List Bool} {v : Value} {ys : List Bool} {o : Obj} (ho : OwnT wr w1.heap.size v ys) (hb : Below w1.heap.size w1 wr) (hg : (wr.alloc o).grownBy w5 v.ownBlock) (h1 : DT w w1 A c l) : DT w w5 A c l :=
  h1.below ((hb.alloc hb.size o).grown hg (by have := hb.size; simp; omega) fun k hk => (ho.lt k hk).1)
theorem path_cases (l : List Bool) (f g : Int) (h : 0 < (path l f g).length) : chkB l f g = true ∧ (path l f g).length = l.length ∧ ∀ k (hk : k < (path l f g).length), (path l f g)[k] = bit (gst l f g (k + 1)) := by
  have hc : chkB l f g = true := by
    rcases e : chkB l f g with _ | _
    · unfold path at h; rw [e] at h; simp at h
    · rfl
  exact ⟨hc, path_len' hc, fun k hk => path_at hc hk⟩
theorem one_path {l : List Bool} (h : l.length ≤ 12) : (path l 1 1).length = l.length ∧ ∀ k (hk : k < (path l 1 1).length) (hl : k < l.length), (path l 1 1)[k] = bit l[k] := by
  have hc : chkB l 1 1 = true := chkB_iff.2 ⟨h, by omega, by omega⟩
  refine ⟨path_len' hc, fun k hk hl => ?_⟩
  rw [path_at hc hk, gst_one hl, getD_b hl]
theorem short_path {l : List Bool} {f g : Int} {P : List Int} (h : chkB l f g = true) (hP : path l f g = P) : path (l.take (l.length - 1)) f g = P.take (l.length - 1) := by
  rw [path_take h, hP]
theorem own_drewN {w : World} {base : Nat} {v : Value} {ys : List Int} (h : Own w base v ys) (n : Nat) : Own (w.drewN n) base v ys := h
theorem take_sees {w : World} {base n c : Nat} {A : Option Addr} {ys : List Int} (h : Own w base (.slice A n c) ys) (k : Nat) : Sees w w.heap.size A (ints (ys.take k)) := by
  rw [show ints (ys.take k) = (ints ys).take k by simp [ints]]
  exact h.sees4.take k
theorem equalInts_len {A B : Option Addr} {n m c d : Nat} {xs ys : List Int} {w : World} (hx : xs.length = n) (hy : ys.length = m) (h : Sees w w.heap.size A (ints xs)) (h' : Sees w w.heap.size B (ints ys)) (hn : xs.length ≤ 4611686018427387904) :
    Calls Try.prog 10 #[.slice A n c, .slice B m d] w fun e w' => e = .returned (.bool (eqB xs ys)) ∧ Below w.heap.size w w' := by
  subst hx hy; exact equalInts_any A B c d xs ys w h h' hn
theorem share_cases (l : List Bool) (h : 0 ≤ share l) : l.length ≤ 12 ∧ share l ≤ 100 ∧ (share l = 100 ↔ cnt l = l.length) ∧ (share l = 0 ↔ cnt l = 0 ∧ 0 < l.length) := by
  have h12 : l.length ≤ 12 := by
    rcases Nat.lt_or_ge 12 l.length with e | e
    · unfold share at h; rw [if_neg (by omega)] at h; omega
    · exact e
  obtain ⟨a, _, b, c⟩ := share_all h12
  exact ⟨h12, a, b, c⟩
theorem beq_t4 {x y : Int} (h : x = y) : (x == y) = true := by simpa using h
theorem beq_f4 {x y : Int} (h : ¬ x = y) : (x == y) = false := by simpa using h
theorem wpList_append_want {P : Program} (w : World) {ops : Array Oper} {rest : List Oper} {o : Oper} {a : Act} {Q : Exit → Act → World → Prop} (hw : Region.wanted o (yielded ops a.tmps) = true) (s x : Operand) (t : TypeId)
    (ho : o.op = .call { callee := .builtin .append, args := #[s, x], argTypes := #[t, t] })
    (base : Nat) (e : TypeId) (i : TypeInfo) (z : Value) (size bytes : Nat) (ht : P.underlying t = some (.slice e)) (hi : P.info? e = some i) (hz : i.zero = some z)
    (hsize : i.size = size) (hby : i.bytes = bytes) (hzs : z.cells.size = size) (hsz : 0 < size)
    (v : Value) (n : Nat) (xs : List Value) (hs : a.eval s = v) (hown : w.ownsRow base e size v n xs)
    (ad : Addr) (m c : Nat) (news : List Value) (hx : a.eval x = .slice (some ad) m c) (hl : news.length = m * size) (hnews : ∀ j u, news[j]? = some u → w.cell? (ad.add j) = some u) (h1 : ∀ u ∈ news, u.oneCell' = true)
    (h63 : n + m ≤ maxLen) (hbytes : (n + m) * bytes ≤ 140737488355328) (hbase : base ≤ w.heap.size)
    (h : ∀ v' w', w'.ownsRow base e size v' (n + m) (xs ++ news) → w.grownBy w' v.ownBlock → wpList P ops Q rest (a.put o.dst v') w') : wpList P ops Q (o :: rest) a w := by
  refine wpList_step fun K hK => ?_
  rw [if_pos hw]
  obtain ⟨v', w', hr, h2, h3, _⟩ := run_append_own (P := P) w base t o.type e i z size bytes ht hi hz hsize hby hzs hsz v n xs hown ad m c news hl hnews h1 h63 hbytes hbase
  unfold Oper.wp execOp
  simp only [ho, resolve, invoke, builtin, Sem.run_bind, Sem.run_pure, Result.andThen_ok, List.map_toArray, List.map_cons, List.map_nil, hs, hx, hr]
  exact hK _ _ (h v' w' h2 h3)
theorem last_more {l : List Bool} (h1 : 1 ≤ lastRun l) (hm : ¬ l.length = 12) : lastRun (l ++ [l.getD (l.length - 1) false]) = lastRun l + 1 ∧ lastRun (l ++ [!l.getD (l.length - 1) false]) = 1 := by
  obtain ⟨h12, hr, hle⟩ := last_cases l h1
  have hn : l ≠ [] := fun e => by subst e; exact absurd h1 (by decide)
  obtain ⟨l', x, rfl⟩ : ∃ l' x, l = l' ++ [x] := ⟨_, _, (List.dropLast_concat_getLast hn).symm⟩
  have e : (l' ++ [x]).getD ((l' ++ [x]).length - 1) false = x := by simp [List.getD_eq_getElem?_getD]
  rw [e, hr]
  unfold lastRun
  rw [if_pos (by simp at h12 hm ⊢; omega), if_pos (by simp at h12 hm ⊢; omega), run_snoc_same, run_snoc_other]
  omega
end Go.Proofs.Ythghmpcfiakjgac
