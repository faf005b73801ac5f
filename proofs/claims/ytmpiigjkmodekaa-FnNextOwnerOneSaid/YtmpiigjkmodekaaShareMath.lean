/-
  Plain facts on shares: which are valid, to whom they give next, and to whom they give one after the other. No condition; nothing of the program's text is used here.
-/
import Derived.Test.YtmpiigjkmodekaaOrdMath
namespace Go.Proofs.Ytmpiigjkmodekaa.Sha
open Lse

structure Shr where
  t : Int
  m : List Int
  h : List Int
deriving DecidableEq

def sm : List Int → Int
  | [] => 0
  | x :: l => x + sm l
theorem sm_app : ∀ l m : List Int, sm (l ++ m) = sm l + sm m
  | [], m => by simp [sm]
  | x :: l, m => by simp [sm, sm_app l m]; omega
theorem sm_succ {l : List Int} {k : Nat} (hk : k < l.length) : sm (l.take (k + 1)) = sm (l.take k) + l[k] := by
  rw [List.take_succ_eq_append_getElem hk, sm_app]; simp [sm]
/-- The number at a place. -/
def nth (l : List Int) (o : Int) : Int := l.getD o.toNat 0
theorem nth_at {l : List Int} {i : Nat} (h : i < l.length) : nth l i = l[i] := by simp [nth, h]
def addO (l : List Int) (o d : Int) : List Int := l.modify o.toNat (· + d)
theorem addO_len (l : List Int) (o d : Int) : (addO l o d).length = l.length := by simp [addO]
theorem addO_nth {l : List Int} {o p d : Int} (ho : 0 ≤ o) (hp : 0 ≤ p) (hl : o < l.length) : nth (addO l o d) p = if o = p then nth l p + d else nth l p := by
  unfold nth addO
  rw [List.getD_eq_getElem?_getD, List.getElem?_modify, List.getD_eq_getElem?_getD]
  by_cases e : o = p
  · subst e
    have : o.toNat < l.length := by omega
    rw [if_pos rfl, List.getElem?_eq_getElem this]; simp
  · have : ¬ o.toNat = p.toNat := by omega
    simp [e, this]
theorem addO_set {l : List Int} {i : Nat} (hi : i < l.length) (d : Int) : addO l i d = l.set i (l[i] + d) := by
  unfold addO
  rw [Int.toNat_natCast]
  apply List.ext_getElem
  · simp
  · intro j h1 h2
    rw [List.getElem_modify, List.getElem_set]
    split
    · rename_i e; subst e; rfl
    · rfl
theorem addO_comm (l : List Int) (o p d e : Int) : addO (addO l o d) p e = addO (addO l p e) o d := by
  unfold addO
  apply List.ext_getElem
  · simp
  · intro j h1 h2
    simp only [List.getElem_modify]
    split <;> split <;> omega
theorem addO_back {l : List Int} (o d : Int) : addO (addO l o d) o (-d) = l := by
  unfold addO
  apply List.ext_getElem
  · simp
  · intro j h1 h2
    simp only [List.getElem_modify]
    split <;> omega
theorem sm_modify : ∀ {l : List Int} {i : Nat} (_ : i < l.length) (d : Int), sm (l.modify i (· + d)) = sm l + d
  | x :: l, 0, _, d => by simp [sm]; omega
  | x :: l, i + 1, h, d => by simp [sm, sm_modify (l := l) (i := i) (by simpa using h) d]; omega
theorem addO_sm {l : List Int} {o : Int} (h0 : 0 ≤ o) (ho : o < l.length) (d : Int) : sm (addO l o d) = sm l + d := sm_modify (by omega) d

def inR (lo hi : Int) (l : List Int) : Prop := ∀ x ∈ l, lo ≤ x ∧ x ≤ hi
instance (lo hi : Int) (l : List Int) : Decidable (inR lo hi l) := inferInstanceAs (Decidable (∀ x ∈ l, _))
/-- Nobody has more than most. -/
def Und (m h : List Int) : Prop := ∀ i, i < h.length → 0 ≤ nth h (i : Nat) ∧ nth h (i : Nat) ≤ nth m (i : Nat)
instance (m h : List Int) : Decidable (Und m h) := inferInstanceAs (Decidable (∀ i, i < h.length → _))
def shareB (s : Shr) : Bool := decide ((0 ≤ s.t ∧ s.t ≤ 20) ∧ s.m.length = 5 ∧ inR 0 20 s.m ∧ s.h.length = 5 ∧ Und s.m s.h ∧ sm s.h ≤ s.t)
theorem shareB_iff {s : Shr} : shareB s = true ↔ (0 ≤ s.t ∧ s.t ≤ 20) ∧ s.m.length = 5 ∧ inR 0 20 s.m ∧ s.h.length = 5 ∧ Und s.m s.h ∧ sm s.h ≤ s.t := by unfold shareB; simp
theorem share_m {s : Shr} (h : shareB s = true) : s.m.length = 5 := (shareB_iff.1 h).2.1
theorem share_h {s : Shr} (h : shareB s = true) : s.h.length = 5 := (shareB_iff.1 h).2.2.2.1
theorem share_und {s : Shr} (h : shareB s = true) {o : Int} (h0 : 0 ≤ o) (h5 : o < 5) : 0 ≤ nth s.h o ∧ nth s.h o ≤ nth s.m o := by
  obtain ⟨_, _, _, e, hu, _⟩ := shareB_iff.1 h
  obtain ⟨k, rfl⟩ : ∃ k : Nat, o = k := ⟨o.toNat, by omega⟩
  exact hu k (by omega)
theorem share_sm {s : Shr} (h : shareB s = true) : sm s.h ≤ s.t := (shareB_iff.1 h).2.2.2.2.2
theorem share_t {s : Shr} (h : shareB s = true) : 0 ≤ s.t ∧ s.t ≤ 20 := (shareB_iff.1 h).1
theorem nth_mem {l : List Int} {lo hi : Int} (h : inR lo hi l) {o : Int} (h0 : 0 ≤ o) (ho : o < l.length) : lo ≤ nth l o ∧ nth l o ≤ hi := by
  obtain ⟨k, rfl⟩ : ∃ k : Nat, o = k := ⟨o.toNat, by omega⟩
  rw [nth_at (by omega)]
  exact h _ (List.getElem_mem _)
theorem share_most {s : Shr} (h : shareB s = true) {o : Int} (h0 : 0 ≤ o) (h5 : o < 5) : 0 ≤ nth s.m o ∧ nth s.m o ≤ 20 := by
  obtain ⟨_, e, hm, _⟩ := shareB_iff.1 h
  exact nth_mem hm h0 (by omega)
/-- Shares in which an owner has d more. -/
def chg (s : Shr) (o d : Int) : Shr := ⟨s.t, s.m, addO s.h o d⟩
theorem chg_valid {s : Shr} (h : shareB s = true) {o : Int} (h0 : 0 ≤ o) (h5 : o < 5) (d : Int) :
    shareB (chg s o d) = decide (0 ≤ nth s.h o + d ∧ nth s.h o + d ≤ nth s.m o ∧ sm s.h + d ≤ s.t) := by
  obtain ⟨h1, h2, h3, h4, hu, h6⟩ := shareB_iff.1 h
  rw [Bool.eq_iff_iff, shareB_iff, decide_eq_true_eq]
  have hl : o < s.h.length := by omega
  constructor
  · rintro ⟨_, _, _, _, h7, h8⟩
    have := h7 o.toNat (by unfold chg; rw [addO_len]; omega)
    unfold chg at this h8
    simp only [Int.toNat_of_nonneg h0] at this
    rw [addO_nth h0 h0 hl, if_pos rfl] at this
    rw [addO_sm h0 hl] at h8
    exact ⟨this.1, this.2, h8⟩
  · rintro ⟨a, b, c⟩
    refine ⟨h1, h2, h3, by unfold chg; rw [addO_len]; exact h4, fun i hi => ?_, by unfold chg; rw [addO_sm h0 hl]; exact c⟩
    unfold chg at hi ⊢
    rw [addO_len] at hi
    rw [addO_nth h0 (by omega) hl]
    split
    · rename_i e; subst e; exact ⟨a, b⟩
    · exact hu i hi
theorem chg_back (s : Shr) (o d : Int) : chg (chg s o d) o (-d) = s := by unfold chg; rw [addO_back]
def okO (o : Int) : Bool := decide (0 ≤ o ∧ o < 5)
theorem okO_iff {o : Int} : okO o = true ↔ 0 ≤ o ∧ o < 5 := by unfold okO; simp
def giveB (s : Shr) (o d : Int) : Bool := shareB s && (okO o && shareB (chg s o d))
theorem giveB_iff {s : Shr} {o d : Int} : giveB s o d = true ↔ shareB s = true ∧ (0 ≤ o ∧ o < 5) ∧ shareB (chg s o d) = true := by
  unfold giveB; simp [okO_iff]
def zeroS : Shr := ⟨0, [], []⟩
def giveS (s : Shr) (o d : Int) : Shr := if giveB s o d = true then chg s o d else zeroS
theorem giveS_yes {s : Shr} {o d : Int} (h : giveB s o d = true) : giveS s o d = chg s o d := if_pos h
theorem giveS_no {s : Shr} {o d : Int} (h : giveB s o d = false) : giveS s o d = zeroS := if_neg (by simp [h])
/-- One is taken: that can be if the owner has some. -/
theorem take_valid {s : Shr} (h : shareB s = true) {o : Int} (h0 : 0 ≤ o) (h5 : o < 5) : shareB (chg s o (-1)) = decide (nth s.h o ≠ 0) := by
  rw [chg_valid h h0 h5]
  have := share_und h h0 h5
  have := share_sm h
  rw [Bool.eq_iff_iff, decide_eq_true_eq, decide_eq_true_eq]
  omega
theorem give_valid {s : Shr} (h : shareB s = true) {o : Int} (h0 : 0 ≤ o) (h5 : o < 5) : shareB (chg s o 1) = decide (nth s.h o < nth s.m o ∧ sm s.h < s.t) := by
  rw [chg_valid h h0 h5]
  have := share_und h h0 h5
  rw [Bool.eq_iff_iff, decide_eq_true_eq, decide_eq_true_eq]
  omega

/-! Who is next. -/
/-- The ask at a place can be given one. -/
def can (m h asks : List Int) (i : Nat) : Prop := ∃ hi : i < asks.length, nth h asks[i] < nth m asks[i]
/-- k is the first one of those below n that has least. -/
def Poor (m h asks : List Int) (n : Nat) (a : Int) : Prop :=
  (a = -1 ∧ ∀ i, i < n → ¬ can m h asks i) ∨ ∃ k : Nat, a = k ∧ k < n ∧ can m h asks k ∧ ∀ i (hi : i < asks.length) (hk : k < asks.length), i < n → can m h asks i → nth h asks[k] < nth h asks[i] ∨ (nth h asks[k] = nth h asks[i] ∧ k ≤ i)
theorem poor_one {m h asks : List Int} {n : Nat} {a b : Int} (ha : Poor m h asks n a) (hb : Poor m h asks n b) : a = b := by
  rcases ha with ⟨rfl, ha⟩ | ⟨k, rfl, hk, ck, ha⟩
  · rcases hb with ⟨rfl, _⟩ | ⟨k', rfl, hk', ck', _⟩
    · rfl
    · exact absurd ck' (ha k' hk')
  · rcases hb with ⟨rfl, hb⟩ | ⟨k', rfl, hk', ck', hb⟩
    · exact absurd ck (hb k hk)
    · have h1 := ha k' ck'.1 ck.1 hk' ck'
      have h2 := hb k ck.1 ck'.1 hk ck
      omega
theorem poor_zero (m h asks : List Int) : Poor m h asks 0 (-1) := .inl ⟨rfl, by omega⟩
theorem poor_skip {m h asks : List Int} {n : Nat} {a : Int} (hp : Poor m h asks n a) (hn : n < asks.length) (hs : ¬ can m h asks n ∨ ∃ k : Nat, ∃ hk : k < asks.length, a = k ∧ ¬ nth h asks[n] < nth h asks[k]) : Poor m h asks (n + 1) a := by
  rcases hp with ⟨rfl, hp⟩ | ⟨k, rfl, hk, ck, hp⟩
  · rcases hs with hs | ⟨k, _, e, _⟩
    · refine .inl ⟨rfl, fun i hi => ?_⟩
      rcases Nat.lt_or_ge i n with e | e
      · exact hp i e
      · rw [show i = n by omega]; exact hs
    · omega
  · refine .inr ⟨k, rfl, by omega, ck, fun i hi hk' hin ci => ?_⟩
    rcases Nat.lt_or_ge i n with e | e
    · exact hp i hi hk' e ci
    · have : i = n := by omega
      subst this
      rcases hs with hs | ⟨k', hk'', e', hs⟩
      · exact absurd ci hs
      · have : k' = k := by omega
        subst this
        omega
theorem poor_take {m h asks : List Int} {n : Nat} {a : Int} (hp : Poor m h asks n a) (hn : n < asks.length) (hc : can m h asks n) (hs : a = -1 ∨ ∃ k : Nat, ∃ hk : k < asks.length, a = k ∧ nth h asks[n] < nth h asks[k]) : Poor m h asks (n + 1) (n : Int) := by
  refine .inr ⟨n, rfl, by omega, hc, fun i hi hk hin ci => ?_⟩
  rcases Nat.lt_or_ge i n with e | e
  · rcases hp with ⟨rfl, hp⟩ | ⟨k, rfl, hkn, ck, hp⟩
    · exact absurd ci (hp i e)
    · rcases hs with hs | ⟨k', hk', e', hs⟩
      · omega
      · have : k' = k := by omega
        subst this
        have := hp i hi hk' e ci
        omega
  · have : i = n := by omega
    subst this; exact .inr ⟨rfl, Nat.le_refl _⟩
theorem poor_some (m h asks : List Int) : ∀ n, n ≤ asks.length → ∃ a, Poor m h asks n a
  | 0, _ => ⟨-1, poor_zero m h asks⟩
  | n + 1, hn => by
    obtain ⟨a, hp⟩ := poor_some m h asks n (by omega)
    by_cases hc : can m h asks n
    · by_cases hs : a = -1 ∨ ∃ k : Nat, ∃ hk : k < asks.length, a = k ∧ nth h (asks[n]'hn) < nth h asks[k]
      · exact ⟨n, poor_take hp hn hc hs⟩
      · refine ⟨a, poor_skip hp hn (.inr ?_)⟩
        rcases hp with ⟨rfl, _⟩ | ⟨k, rfl, hk, ck, _⟩
        · exact absurd (.inl rfl) hs
        · exact ⟨k, ck.1, rfl, fun hh => hs (.inr ⟨k, ck.1, rfl, hh⟩)⟩
    · exact ⟨a, poor_skip hp hn (.inl hc)⟩
noncomputable def poor (m h asks : List Int) : Int := (poor_some m h asks asks.length (Nat.le_refl _)).choose
theorem poor_is (m h asks : List Int) : Poor m h asks asks.length (poor m h asks) := (poor_some m h asks asks.length (Nat.le_refl _)).choose_spec
theorem poor_eq {m h asks : List Int} {a : Int} (hp : Poor m h asks asks.length a) : poor m h asks = a := poor_one (poor_is m h asks) hp
theorem poor_lt (m h asks : List Int) : -1 ≤ poor m h asks ∧ poor m h asks < asks.length := by
  rcases poor_is m h asks with ⟨e, _⟩ | ⟨k, e, hk, _⟩ <;> omega

def okA (asks : List Int) : Prop := asks.length ≤ 12 ∧ inR 0 4 asks
instance (asks : List Int) : Decidable (okA asks) := inferInstanceAs (Decidable (_ ∧ _))
noncomputable def nextO (s : Shr) (asks : List Int) : Int := if shareB s = true ∧ okA asks ∧ sm s.h ≠ s.t then poor s.m s.h asks else -1
theorem nextO_lt (s : Shr) (asks : List Int) : -1 ≤ nextO s asks ∧ nextO s asks < asks.length := by
  unfold nextO
  split
  · exact poor_lt _ _ _
  · omega

/-! Asks with what their owners have then. -/
def lev (h : List Int) : List Int → List Int
  | [] => []
  | a :: l => nth h a :: lev (addO h a 1) l
theorem lev_len : ∀ (h l : List Int), (lev h l).length = l.length
  | _, [] => rfl
  | h, a :: l => by simp [lev, lev_len _ l]
/-- What the owners have behind some asks. -/
def lvH (h : List Int) : List Int → List Int
  | [] => h
  | a :: l => lvH (addO h a 1) l
theorem lvH_len : ∀ (h l : List Int), (lvH h l).length = h.length
  | _, [] => rfl
  | h, a :: l => by rw [lvH, lvH_len _ l, addO_len]
theorem lev_app : ∀ (h l k : List Int), lev h (l ++ k) = lev h l ++ lev (lvH h l) k
  | _, [], _ => rfl
  | h, a :: l, k => by simp [lev, lvH, lev_app _ l k]
theorem lvH_app : ∀ (h l k : List Int), lvH h (l ++ k) = lvH (lvH h l) k
  | _, [], _ => rfl
  | h, a :: l, k => by simp [lvH, lvH_app _ l k]
theorem lev_succ {h asks : List Int} {k : Nat} (hk : k < asks.length) : lev h (asks.take (k + 1)) = lev h (asks.take k) ++ [nth (lvH h (asks.take k)) asks[k]] := by
  rw [List.take_succ_eq_append_getElem hk, lev_app]; rfl
theorem lvH_succ {h asks : List Int} {k : Nat} (hk : k < asks.length) : lvH h (asks.take (k + 1)) = addO (lvH h (asks.take k)) asks[k] 1 := by
  rw [List.take_succ_eq_append_getElem hk, lvH_app]; rfl
/-- What an owner has only grows. -/
theorem lvH_le : ∀ {h : List Int} (l : List Int) (_ : inR 0 4 l) (_ : h.length = 5) {o : Int} (_ : 0 ≤ o), nth h o ≤ nth (lvH h l) o
  | _, [], _, _, _, _ => Int.le_refl _
  | h, a :: l, hl, h5, o, ho => by
    have ha := hl a (by simp)
    have := lvH_le (h := addO h a 1) l (fun x hx => hl x (by simp [hx])) (by rw [addO_len]; exact h5) ho
    rw [addO_nth ha.1 ho (by omega)] at this
    rw [lvH]
    split at this <;> omega
theorem lev_bound : ∀ {h : List Int} (l : List Int) (_ : inR 0 4 l) (_ : h.length = 5) (b : Int) (_ : ∀ o, 0 ≤ o → o < 5 → 0 ≤ nth h o ∧ nth h o ≤ b), ∀ x ∈ lev h l, 0 ≤ x ∧ x ≤ b + l.length
  | _, [], _, _, _, _ => by simp [lev]
  | h, a :: l, hl, h5, b, hb => by
    have ha := hl a (by simp)
    intro x hx
    rw [lev, List.mem_cons] at hx
    rcases hx with rfl | hx
    · have := hb a ha.1 (by omega); simp; omega
    · have := lev_bound (h := addO h a 1) l (fun x hx => hl x (by simp [hx])) (by rw [addO_len]; exact h5) (b + 1) (fun o h0 ho => by
        rw [addO_nth ha.1 h0 (by omega)]
        have := hb o h0 ho
        split <;> omega) x hx
      simp; omega
theorem lvH_bound : ∀ {h : List Int} (l : List Int) (_ : inR 0 4 l) (_ : h.length = 5) (b : Int) (_ : ∀ o, 0 ≤ o → o < 5 → 0 ≤ nth h o ∧ nth h o ≤ b), ∀ o, 0 ≤ o → o < 5 → 0 ≤ nth (lvH h l) o ∧ nth (lvH h l) o ≤ b + l.length
  | h, [], _, _, b, hb, o, h0, ho => by have := hb o h0 ho; simp [lvH]; omega
  | h, a :: l, hl, h5, b, hb, o, h0, ho => by
    have ha := hl a (by simp)
    have := lvH_bound (h := addO h a 1) l (fun x hx => hl x (by simp [hx])) (by rw [addO_len]; exact h5) (b + 1) (fun o h0 ho => by
        rw [addO_nth ha.1 h0 (by omega)]
        have := hb o h0 ho
        split <;> omega) o h0 ho
    rw [lvH]
    simp; omega
theorem lev_erase : ∀ {h : List Int} {l : List Int} {k : Nat} (hk : k < l.length) (_ : l[k] ∉ l.take k) (_ : inR 0 4 l) (_ : h.length = 5), lev (addO h l[k] 1) (l.eraseIdx k) = (lev h l).eraseIdx k
  | h, a :: l, 0, _, _, _, _ => rfl
  | h, a :: l, k + 1, hk, hn, hl, h5 => by
    have hk' : k < l.length := by simpa using hk
    have ha := hl a (by simp)
    have hlk := hl l[k] (by simp)
    simp only [List.getElem_cons_succ, List.take_succ_cons, List.mem_cons, not_or] at hn ⊢
    have ih := lev_erase (h := addO h a 1) hk' hn.2 (fun x hx => hl x (by simp [hx])) (by rw [addO_len]; exact h5)
    rw [List.eraseIdx_cons_succ, lev, lev, List.eraseIdx_cons_succ, ← ih, addO_comm, addO_nth hlk.1 ha.1 (by omega), if_neg hn.1]

/-! The first of equal ones goes first. -/
def insP (x : Int × Int) : List (Int × Int) → List (Int × Int)
  | [] => [x]
  | y :: l => if x.1 ≤ y.1 then x :: y :: l else y :: insP x l
/-- Those that pass e, ordered by the first number, and by their places if these are equal. -/
def srt (e : Int × Int → Bool) : List (Int × Int) → List (Int × Int)
  | [] => []
  | x :: l => if e x = true then insP x (srt e l) else srt e l
theorem insP_mem (x : Int × Int) : ∀ l y, y ∈ insP x l ↔ y = x ∨ y ∈ l
  | [], y => by simp [insP]
  | z :: l, y => by
    unfold insP
    split
    · simp
    · simp only [List.mem_cons, insP_mem x l y]
      constructor <;> rintro (h | h | h) <;> simp [h]
theorem srt_mem (e : Int × Int → Bool) : ∀ l y, y ∈ srt e l → y ∈ l ∧ e y = true
  | [], y, h => by simp [srt] at h
  | x :: l, y, h => by
    unfold srt at h
    split at h
    · rcases (insP_mem x _ y).1 h with h | h
      · subst h; rename_i he; exact ⟨by simp, he⟩
      · have := srt_mem e l y h; exact ⟨by simp [this.1], this.2⟩
    · have := srt_mem e l y h; exact ⟨by simp [this.1], this.2⟩
theorem insP_first {x : Int × Int} : ∀ {l : List (Int × Int)}, (∀ y ∈ l, x.1 ≤ y.1) → insP x l = x :: l
  | [], _ => rfl
  | y :: l, h => by unfold insP; rw [if_pos (h y (by simp))]
theorem srt_none {e : Int × Int → Bool} : ∀ {l : List (Int × Int)}, (∀ y ∈ l, e y = false) → srt e l = []
  | [], _ => rfl
  | x :: l, h => by unfold srt; rw [if_neg (by rw [h x (by simp)]; simp), srt_none fun y hy => h y (by simp [hy])]
/-- The first one with least comes first. -/
theorem srt_pick {e : Int × Int → Bool} : ∀ {l : List (Int × Int)} {k : Nat} (hk : k < l.length) (_ : e l[k] = true) (_ : ∀ i (hi : i < l.length), e l[i] = true → l[k].1 < l[i].1 ∨ (l[k].1 = l[i].1 ∧ k ≤ i)), srt e l = l[k] :: srt e (l.eraseIdx k)
  | x :: l, 0, _, he, hm => by
    rw [srt, if_pos (by simpa using he)]
    simp only [List.getElem_cons_zero, List.eraseIdx_cons_zero]
    refine insP_first fun y hy => ?_
    obtain ⟨h1, h2⟩ := srt_mem e l y hy
    obtain ⟨i, hi, rfl⟩ := List.getElem_of_mem h1
    have := hm (i + 1) (by simpa using hi) (by simpa using h2)
    simp at this
    omega
  | x :: l, k + 1, hk, he, hm => by
    have hk' : k < l.length := by simpa using hk
    have ih := srt_pick (l := l) hk' (by simpa using he) (fun i hi hei => by have := hm (i + 1) (by simpa using hi) (by simpa using hei); simpa using this)
    rw [srt, List.eraseIdx_cons_succ, srt, ih]
    by_cases hx : e x = true
    · have h0 := hm 0 (by simp) (by simpa using hx)
      simp only [List.getElem_cons_succ, List.getElem_cons_zero] at h0
      rw [if_pos hx, if_pos hx, insP, if_neg (by omega)]
      rfl
    · rw [if_neg hx, if_neg hx]; rfl

/-! Asks with their levels, as pairs. -/
def prs (h : List Int) : List Int → List (Int × Int)
  | [] => []
  | a :: l => (nth h a, a) :: prs (addO h a 1) l
theorem prs_len : ∀ (h l : List Int), (prs h l).length = l.length
  | _, [] => rfl
  | h, a :: l => by simp [prs, prs_len _ l]
theorem prs_fst : ∀ (h l : List Int), (prs h l).map Prod.fst = lev h l
  | _, [] => rfl
  | h, a :: l => by simp [prs, lev, prs_fst _ l]
theorem prs_snd : ∀ (h l : List Int), (prs h l).map Prod.snd = l
  | _, [] => rfl
  | h, a :: l => by simp [prs, prs_snd _ l]
theorem prs_at {h l : List Int} {i : Nat} (hi : i < l.length) : (prs h l)[i]'(by rw [prs_len]; exact hi) = ((lev h l)[i]'(by rw [lev_len]; exact hi), l[i]) := by
  apply Prod.ext
  · have := prs_fst h l
    have e : ((prs h l).map Prod.fst)[i]? = (lev h l)[i]? := by rw [this]
    rw [List.getElem?_map, List.getElem?_eq_getElem (by rw [prs_len]; exact hi), List.getElem?_eq_getElem (by rw [lev_len]; exact hi)] at e
    simpa using e
  · have := prs_snd h l
    have e : ((prs h l).map Prod.snd)[i]? = l[i]? := by rw [this]
    rw [List.getElem?_map, List.getElem?_eq_getElem (by rw [prs_len]; exact hi), List.getElem?_eq_getElem hi] at e
    simpa using e
theorem prs_erase : ∀ {h : List Int} {l : List Int} {k : Nat} (hk : k < l.length) (_ : l[k] ∉ l.take k) (_ : inR 0 4 l) (_ : h.length = 5), prs (addO h l[k] 1) (l.eraseIdx k) = (prs h l).eraseIdx k
  | h, a :: l, 0, _, _, _, _ => rfl
  | h, a :: l, k + 1, hk, hn, hl, h5 => by
    have hk' : k < l.length := by simpa using hk
    have ha := hl a (by simp)
    have hlk := hl l[k] (by simp)
    simp only [List.getElem_cons_succ, List.take_succ_cons, List.mem_cons, not_or] at hn ⊢
    have ih := prs_erase (h := addO h a 1) hk' hn.2 (fun x hx => hl x (by simp [hx])) (by rw [addO_len]; exact h5)
    rw [List.eraseIdx_cons_succ, prs, prs, List.eraseIdx_cons_succ, ← ih, addO_comm, addO_nth hlk.1 ha.1 (by omega), if_neg hn.1]
theorem lvH_not : ∀ {h : List Int} (l : List Int) (_ : inR 0 4 l) (_ : h.length = 5) {o : Int} (_ : 0 ≤ o) (_ : o ∉ l), nth (lvH h l) o = nth h o
  | _, [], _, _, _, _, _ => rfl
  | h, a :: l, hl, h5, o, h0, hn => by
    have ha := hl a (by simp)
    rw [List.mem_cons, not_or] at hn
    rw [lvH, lvH_not l (fun x hx => hl x (by simp [hx])) (by rw [addO_len]; exact h5) h0 hn.2, addO_nth ha.1 h0 (by omega), if_neg (fun e => hn.1 e.symm)]
theorem lev_at {h l : List Int} {i : Nat} (hi : i < l.length) : (lev h l)[i]'(by rw [lev_len]; exact hi) = nth (lvH h (l.take i)) l[i] := by
  have e := lev_app h (l.take i) (l.drop i)
  rw [List.take_append_drop] at e
  have h1 : (lev h l)[i]? = some (nth (lvH h (l.take i)) l[i]) := by
    rw [e, List.getElem?_append_right (by rw [lev_len, List.length_take]; omega), lev_len, List.length_take, Nat.min_eq_left (by omega), Nat.sub_self, List.drop_eq_getElem_cons hi]
    rfl
  rw [List.getElem?_eq_getElem (by rw [lev_len]; exact hi)] at h1
  injection h1
theorem inR_take {lo hi : Int} {l : List Int} (h : inR lo hi l) (k : Nat) : inR lo hi (l.take k) := fun x hx => h x (List.mem_of_mem_take hx)
theorem lev_ge {h l : List Int} (hl : inR 0 4 l) (h5 : h.length = 5) {i : Nat} (hi : i < l.length) : nth h l[i] ≤ (lev h l)[i]'(by rw [lev_len]; exact hi) := by
  rw [lev_at hi]
  exact lvH_le _ (inR_take hl i) h5 (hl _ (List.getElem_mem hi)).1
def eok (m : List Int) (x : Int × Int) : Bool := decide (x.1 < nth m x.2)
theorem eok_iff {m : List Int} {x : Int × Int} : eok m x = true ↔ x.1 < nth m x.2 := by unfold eok; simp
/-- Those who get, in order. -/
def giveO (s : Shr) (asks : List Int) : List Int := ((srt (eok s.m) (prs s.h asks)).take (s.t - sm s.h).toNat).map Prod.snd
def giveA (s : Shr) (asks : List Int) : List Int := if shareB s = true ∧ okA asks then giveO s asks else []
theorem giveA_yes {s : Shr} {asks : List Int} (h : shareB s = true) (ha : okA asks) : giveA s asks = giveO s asks := if_pos ⟨h, ha⟩
theorem giveA_no {s : Shr} {asks : List Int} (h : ¬ (shareB s = true ∧ okA asks)) : giveA s asks = [] := if_neg h
theorem nextO_yes {s : Shr} {asks : List Int} (h : shareB s = true) (ha : okA asks) (hs : sm s.h ≠ s.t) : nextO s asks = poor s.m s.h asks := if_pos ⟨h, ha, hs⟩
theorem nextO_no {s : Shr} {asks : List Int} (h : ¬ (shareB s = true ∧ okA asks ∧ sm s.h ≠ s.t)) : nextO s asks = -1 := if_neg h
theorem give_end {s : Shr} {asks : List Int} (h : shareB s = true) (ha : okA asks) (hn : nextO s asks = -1) : giveO s asks = [] := by
  unfold giveO
  by_cases hs : sm s.h = s.t
  · rw [hs, Int.sub_self]; rfl
  · rw [nextO_yes h ha hs] at hn
    rw [srt_none]
    · simp
    · intro y hy
      obtain ⟨i, hi, rfl⟩ := List.getElem_of_mem hy
      rw [prs_len] at hi
      rcases poor_is s.m s.h asks with ⟨_, hp⟩ | ⟨k, e, _⟩
      · have := hp i hi
        rw [prs_at hi, Bool.eq_false_iff]
        intro he
        rw [eok_iff] at he
        have := lev_ge ha.2 (share_h h) hi
        exact hp i hi ⟨hi, by simp at he; omega⟩
      · omega
theorem next_pick {s : Shr} {asks : List Int} {k : Nat} (h : shareB s = true) (ha : okA asks) (hn : nextO s asks = k) :
    ∃ hk : k < asks.length, sm s.h < s.t ∧ can s.m s.h asks k ∧ asks[k] ∉ asks.take k ∧ ∀ i (hi : i < asks.length), can s.m s.h asks i → nth s.h asks[k] < nth s.h asks[i] ∨ (nth s.h asks[k] = nth s.h asks[i] ∧ k ≤ i) := by
  have hs : sm s.h ≠ s.t := fun e => by rw [nextO_no (fun hh => hh.2.2 e)] at hn; omega
  rw [nextO_yes h ha hs] at hn
  rcases poor_is s.m s.h asks with ⟨e, _⟩ | ⟨k', e, hk, ck, hp⟩
  · omega
  · have : k' = k := by omega
    subst this
    have hsm := share_sm h
    refine ⟨hk, by omega, ck, fun hm => ?_, fun i hi ci => hp i hi hk hi ci⟩
    obtain ⟨j, hj, ej⟩ := List.mem_take_iff_getElem.1 hm
    have hjl : j < asks.length := by omega
    have hc : can s.m s.h asks j := ⟨hjl, by have := ck.2; rw [← ej] at this; exact this⟩
    have := hp j hjl hk hjl hc
    rw [ej] at this
    omega
theorem okA_erase {asks : List Int} (h : okA asks) (k : Nat) : okA (asks.eraseIdx k) := ⟨Nat.le_trans (List.length_eraseIdx_le _ _) h.1, fun x hx => h.2 x (List.mem_of_mem_eraseIdx hx)⟩
theorem next_give {s : Shr} {asks : List Int} {k : Nat} (h : shareB s = true) (ha : okA asks) (hn : nextO s asks = k) : ∃ hk : k < asks.length, giveB s asks[k] 1 = true := by
  obtain ⟨hk, hs, ck, _⟩ := next_pick h ha hn
  have hr := ha.2 _ (List.getElem_mem hk)
  exact ⟨hk, giveB_iff.2 ⟨h, by omega, by rw [give_valid h hr.1 (by omega)]; exact decide_eq_true ⟨ck.2, hs⟩⟩⟩
theorem give_step {s : Shr} {asks : List Int} {k : Nat} (h : shareB s = true) (ha : okA asks) (hn : nextO s asks = k) :
    ∃ hk : k < asks.length, giveO s asks = asks[k] :: giveO (chg s asks[k] 1) (asks.eraseIdx k) := by
  obtain ⟨hk, hs, ck, hno, hp⟩ := next_pick h ha hn
  refine ⟨hk, ?_⟩
  have hr := ha.2 _ (List.getElem_mem hk)
  have h5 := share_h h
  have hlk : (lev s.h asks)[k]'(by rw [lev_len]; exact hk) = nth s.h asks[k] := by
    rw [lev_at hk, lvH_not _ (inR_take ha.2 k) h5 hr.1 hno]
  have hpk : (prs s.h asks)[k]'(by rw [prs_len]; exact hk) = (nth s.h asks[k], asks[k]) := by rw [prs_at hk, hlk]
  have hpick := srt_pick (e := eok s.m) (l := prs s.h asks) (k := k) (by rw [prs_len]; exact hk) (by rw [hpk, eok_iff]; exact ck.2) (fun i hi hei => by
    rw [prs_len] at hi
    rw [prs_at hi, eok_iff] at hei
    rw [hpk, prs_at hi]
    have hge := lev_ge ha.2 h5 hi
    simp only at hei ⊢
    have := hp i hi ⟨hi, by omega⟩
    omega)
  unfold giveO
  rw [hpick, hpk]
  obtain ⟨n, hnn⟩ : ∃ n, (s.t - sm s.h).toNat = n + 1 := ⟨(s.t - sm s.h).toNat - 1, by omega⟩
  have hn' : ((chg s asks[k] 1).t - sm (chg s asks[k] 1).h).toNat = n := by
    unfold chg
    simp only
    rw [addO_sm hr.1 (by omega)]
    omega
  rw [hnn, hn', List.take_succ_cons, List.map_cons]
  have he := prs_erase (h := s.h) hk hno ha.2 h5
  unfold chg
  simp only
  rw [he]

/-! The places in order. -/
def prAt (P : List (Int × Int)) (i : Nat) : Int × Int := P.getD i (0, 0)
theorem prAt_get {P : List (Int × Int)} {i : Nat} (h : i < P.length) : prAt P i = P[i] := by simp [prAt, h]
def Lex (P : List (Int × Int)) (a b : Nat) : Prop := (prAt P a).1 < (prAt P b).1 ∨ ((prAt P a).1 = (prAt P b).1 ∧ a < b)
def drp (k i : Nat) : Nat := if k < i then i - 1 else i
theorem srt_places (e : Int × Int → Bool) : ∀ (F : List Nat) (P : List (Int × Int)), F.Pairwise (Lex P) → (∀ i, i ∈ F ↔ i < P.length ∧ e (prAt P i) = true) → F.map (prAt P) = srt e P
  | [], P, _, hm => by
    rw [srt_none]
    · rfl
    · intro y hy
      obtain ⟨i, hi, rfl⟩ := List.getElem_of_mem hy
      rw [Bool.eq_false_iff]
      intro he
      have := (hm i).2 ⟨hi, by rw [prAt_get hi]; exact he⟩
      simp at this
  | k :: F, P, hp, hm => by
    obtain ⟨hk, hek⟩ := (hm k).1 (by simp)
    rw [List.pairwise_cons] at hp
    have hkF : k ∉ F := fun hh => by have := hp.1 k hh; unfold Lex at this; omega
    have hfirst : ∀ i (hi : i < P.length), e P[i] = true → P[k].1 < P[i].1 ∨ (P[k].1 = P[i].1 ∧ k ≤ i) := fun i hi hei => by
      have hi' := (hm i).2 ⟨hi, by rw [prAt_get hi]; exact hei⟩
      rcases List.mem_cons.1 hi' with r | r
      · subst r; exact .inr ⟨rfl, Nat.le_refl _⟩
      · have := hp.1 i r
        unfold Lex at this
        rw [prAt_get hk, prAt_get hi] at this
        omega
    rw [srt_pick hk (by rw [← prAt_get hk]; exact hek) hfirst, List.map_cons, prAt_get hk]
    have hget : ∀ i, i ≠ k → i < P.length → prAt (P.eraseIdx k) (drp k i) = prAt P i := fun i hik hi => by
      unfold prAt drp
      rw [List.getD_eq_getElem?_getD, List.getElem?_eraseIdx, List.getD_eq_getElem?_getD]
      by_cases c : k < i
      · rw [if_pos c, if_neg (by omega), show i - 1 + 1 = i by omega]
      · rw [if_neg c, if_pos (by omega)]
    have hlt : ∀ i ∈ F, i ≠ k ∧ i < P.length := fun i hi => ⟨fun e => hkF (e ▸ hi), ((hm i).1 (by simp [hi])).1⟩
    have ih := srt_places e (F.map (drp k)) (P.eraseIdx k) (by
      rw [List.pairwise_map]
      refine hp.2.imp_of_mem fun {a b} ha hb hab => ?_
      obtain ⟨a1, a2⟩ := hlt a ha
      obtain ⟨b1, b2⟩ := hlt b hb
      unfold Lex at hab ⊢
      rw [hget a a1 a2, hget b b1 b2]
      unfold drp
      split <;> split <;> omega) (fun i => by
      rw [List.mem_map, List.length_eraseIdx_of_lt hk]
      constructor
      · rintro ⟨j, hj, rfl⟩
        obtain ⟨j1, j2⟩ := hlt j hj
        rw [hget j j1 j2]
        refine ⟨?_, ((hm j).1 (by simp [hj])).2⟩
        unfold drp
        split <;> omega
      · rintro ⟨h1, h2⟩
        obtain ⟨j, hj, hjk, hjl⟩ : ∃ j, drp k j = i ∧ j ≠ k ∧ j < P.length := by
          by_cases c : i < k
          · exact ⟨i, by unfold drp; rw [if_neg (by omega)], by omega, by omega⟩
          · exact ⟨i + 1, by unfold drp; rw [if_pos (by omega)]; omega, by omega, by omega⟩
        subst hj
        rw [hget j hjk hjl] at h2
        have := (hm j).2 ⟨hjl, h2⟩
        rcases List.mem_cons.1 this with r | r
        · exact absurd r hjk
        · exact ⟨j, r, rfl⟩)
    rw [← ih, List.map_map]
    congr 1
    refine List.map_congr_left fun i hi => ?_
    obtain ⟨i1, i2⟩ := hlt i hi
    exact (hget i i1 i2).symm
  termination_by F => F.length
  decreasing_by simp
theorem ordN_perm {l : List Int} {n : Nat} {K : List Nat} (h : OrdN l n K) (x : Nat) : x ∈ K ↔ x < n := by
  obtain ⟨h1, h2, h3, _⟩ := h
  refine ⟨h3 x, fun hx => ?_⟩
  refine Classical.byContradiction fun hn => ?_
  have hs : (x :: K).Nodup := List.nodup_cons.2 ⟨hn, h2⟩
  have hle : (x :: K).length ≤ (List.range n).length := by
    have hsub : ∀ y ∈ x :: K, y ∈ List.range n := fun y hy => List.mem_range.2 ((List.mem_cons.1 hy).elim (fun e => e ▸ hx) (h3 y))
    exact List.Nodup.length_le_of_subset hs hsub
  simp only [List.length_cons, List.length_range, h1] at hle
  omega
theorem ordN_pair {l : List Int} {n : Nat} {K : List Nat} (h : OrdN l n K) : K.Pairwise (RpN l) := by
  rw [List.pairwise_iff_getElem]
  intro i j hi hj hij
  have := h.2.2.2 i j hij (by rw [← h.1]; exact hj)
  rwa [ats_get hi, ats_get hj] at this
/-- The places that get, in order. -/
def gets (m h asks : List Int) (K : List Nat) : List Nat := K.filter fun i => eok m (prAt (prs h asks) i)
theorem gets_map {m h asks : List Int} {K : List Nat} (hK : OrdN (lev h asks) asks.length K) : (gets m h asks K).map (prAt (prs h asks)) = srt (eok m) (prs h asks) := by
  refine srt_places _ _ _ ?_ fun i => ?_
  · refine List.Pairwise.filter _ ((ordN_pair hK).imp_of_mem fun {a b} ha hb hab => ?_)
    have ha' := (ordN_perm hK a).1 ha
    have hb' := (ordN_perm hK b).1 hb
    unfold RpN at hab
    unfold Lex
    rw [prAt_get (by rw [prs_len]; exact ha'), prAt_get (by rw [prs_len]; exact hb'), prs_at ha', prs_at hb']
    rw [frN_at (by rw [lev_len]; exact ha'), frN_at (by rw [lev_len]; exact hb')] at hab
    exact hab
  · unfold gets
    rw [List.mem_filter, ordN_perm hK, prs_len]
/-- The places that get among the first k, at most n. -/
def gk (m h asks : List Int) (K : List Nat) (n k : Nat) : List Nat := (gets m h asks (K.take k)).take n
theorem gk_zero (m h asks : List Int) (K : List Nat) (n : Nat) : gk m h asks K n 0 = [] := by simp [gk, gets]
theorem gk_all {m h asks : List Int} {K : List Nat} {n k : Nat} (hk : K.length ≤ k) : gk m h asks K n k = (gets m h asks K).take n := by unfold gk; rw [List.take_of_length_le hk]
theorem gk_len (m h asks : List Int) (K : List Nat) (n k : Nat) : (gk m h asks K n k).length ≤ k := by
  have h1 : (gets m h asks (K.take k)).length ≤ (K.take k).length := List.length_filter_le _ _
  have h2 : (gk m h asks K n k).length ≤ (gets m h asks (K.take k)).length := by unfold gk; rw [List.length_take]; omega
  rw [List.length_take] at h1
  omega
theorem gk_mem {m h asks : List Int} {K : List Nat} {n k i : Nat} (hi : i ∈ gk m h asks K n k) : i ∈ K := List.mem_of_mem_take (List.mem_filter.1 (List.mem_of_mem_take hi)).1
theorem gets_succ {m h asks : List Int} {K : List Nat} {k : Nat} (hk : k < K.length) : gets m h asks (K.take (k + 1)) = gets m h asks (K.take k) ++ if eok m (prAt (prs h asks) K[k]) = true then [K[k]] else [] := by
  unfold gets
  rw [List.take_succ_eq_append_getElem hk, List.filter_append, List.filter_cons, List.filter_nil]
theorem take_snoc_lt {α : Type} {l : List α} {x : α} {n : Nat} (h : (l.take n).length < n) : (l ++ [x]).take n = l.take n ++ [x] := by
  rw [List.length_take] at h
  rw [List.take_of_length_le (by simp; omega), List.take_of_length_le (by omega)]
theorem take_snoc_ge {α : Type} {l : List α} {x : α} {n : Nat} (h : ¬ (l.take n).length < n) : (l ++ [x]).take n = l.take n := by
  rw [List.length_take] at h
  rw [List.take_append_of_le_length (by omega)]
theorem gk_yes {m h asks : List Int} {K : List Nat} {n k : Nat} (hk : k < K.length) (hc : eok m (prAt (prs h asks) K[k]) = true) (hl : (gk m h asks K n k).length < n) : gk m h asks K n (k + 1) = gk m h asks K n k ++ [K[k]] := by
  unfold gk at hl ⊢
  rw [gets_succ hk, if_pos hc]
  exact take_snoc_lt hl
theorem gk_full {m h asks : List Int} {K : List Nat} {n k : Nat} (hk : k < K.length) (hl : ¬ (gk m h asks K n k).length < n) : gk m h asks K n (k + 1) = gk m h asks K n k := by
  unfold gk at hl ⊢
  rw [gets_succ hk]
  split
  · exact take_snoc_ge hl
  · rw [List.append_nil]
theorem gk_no {m h asks : List Int} {K : List Nat} {n k : Nat} (hk : k < K.length) (hc : eok m (prAt (prs h asks) K[k]) = false) : gk m h asks K n (k + 1) = gk m h asks K n k := by
  unfold gk
  rw [gets_succ hk, if_neg (by simp [hc]), List.append_nil]
/-- The owners whose asks get. -/
def own_ (asks : List Int) (i : Nat) : Int := asks.getD i 0
theorem gets_give {s : Shr} {asks : List Int} {K : List Nat} (hK : OrdN (lev s.h asks) asks.length K) : ((gets s.m s.h asks K).take (s.t - sm s.h).toNat).map (own_ asks) = giveO s asks := by
  unfold giveO
  rw [← gets_map hK, ← List.map_take, List.map_map]
  refine List.map_congr_left fun i hi => ?_
  have hi' : i ∈ K := (List.mem_filter.1 (List.mem_of_mem_take hi)).1
  have hl := (ordN_perm hK i).1 hi'
  simp only [Function.comp]
  rw [prAt_get (by rw [prs_len]; exact hl), prs_at hl]
  simp [own_, hl]
/-- The first place that gets is next. -/
theorem gets_next {s : Shr} {asks : List Int} {K : List Nat} (h : shareB s = true) (ha : okA asks) (hK : OrdN (lev s.h asks) asks.length K) :
    nextO s asks = match (gets s.m s.h asks K).take (s.t - sm s.h).toNat with | [] => -1 | k :: _ => (k : Int) := by
  obtain ⟨G, hG⟩ : ∃ G, G = (gets s.m s.h asks K).take (s.t - sm s.h).toNat := ⟨_, rfl⟩
  have hg := gets_give hK
  rw [← hG] at hg ⊢
  rcases G with _ | ⟨k, G⟩
  · simp only
    rcases Int.lt_or_le (nextO s asks) 0 with hn | hn
    · have := (nextO_lt s asks).1; omega
    · obtain ⟨k, hk⟩ : ∃ k : Nat, nextO s asks = k := ⟨(nextO s asks).toNat, by omega⟩
      obtain ⟨_, hst⟩ := give_step h ha hk
      rw [hst] at hg
      simp at hg
  · simp only
    have h5 := share_h h
    have hkG : k ∈ (gets s.m s.h asks K) := List.mem_of_mem_take (by rw [← hG]; simp)
    have hk1 := List.mem_filter.1 hkG
    have hkl := (ordN_perm hK k).1 hk1.1
    have hpos : 0 < (s.t - sm s.h).toNat := by
      rcases Nat.eq_zero_or_pos (s.t - sm s.h).toNat with e | e
      · rw [e] at hG; simp at hG
      · exact e
    rw [nextO_yes h ha (by omega)]
    have hge := lev_ge ha.2 h5 hkl
    have hek : eok s.m (prAt (prs s.h asks) k) = true := hk1.2
    rw [prAt_get (by rw [prs_len]; exact hkl), prs_at hkl, eok_iff] at hek
    simp only at hek
    -- the first one in order
    have hpw : (gets s.m s.h asks K).Pairwise (RpN (lev s.h asks)) := (ordN_pair hK).filter _
    obtain ⟨R, hR⟩ : ∃ R, gets s.m s.h asks K = k :: R := by
      have e := List.take_append_drop (s.t - sm s.h).toNat (gets s.m s.h asks K)
      rw [← hG] at e
      exact ⟨_, e.symm⟩
    rw [hR, List.pairwise_cons] at hpw
    have hall : ∀ i (hi : i < asks.length), eok s.m ((lev s.h asks)[i]'(by rw [lev_len]; exact hi), asks[i]) = true → (lev s.h asks)[k]'(by rw [lev_len]; exact hkl) < (lev s.h asks)[i]'(by rw [lev_len]; exact hi) ∨ ((lev s.h asks)[k]'(by rw [lev_len]; exact hkl) = (lev s.h asks)[i]'(by rw [lev_len]; exact hi) ∧ k ≤ i) := fun i hi he => by
      have hi' : i ∈ gets s.m s.h asks K := List.mem_filter.2 ⟨(ordN_perm hK i).2 hi, by rw [prAt_get (by rw [prs_len]; exact hi), prs_at hi]; exact he⟩
      rw [hR] at hi'
      rcases List.mem_cons.1 hi' with r | r
      · subst r; exact .inr ⟨rfl, Nat.le_refl _⟩
      · have := hpw.1 i r
        unfold RpN at this
        rw [frN_at (by rw [lev_len]; exact hkl), frN_at (by rw [lev_len]; exact hi)] at this
        omega
    have hfst : ∀ i (hi : i < asks.length), can s.m s.h asks i → ∃ j, ∃ hj : j < asks.length, j ≤ i ∧ asks[j] = asks[i] ∧ asks[j] ∉ asks.take j := fun i => by
      induction i using Nat.strongRecOn with
      | ind i ih =>
        intro hi ci
        by_cases hm : asks[i] ∈ asks.take i
        · obtain ⟨j, hj, ej⟩ := List.mem_take_iff_getElem.1 hm
          have hjl : j < asks.length := by omega
          obtain ⟨j', hj', h1, h2, h3⟩ := ih j (by omega) hjl ⟨hjl, by rw [ej]; exact ci.2⟩
          exact ⟨j', hj', by omega, by rw [h2, ej], h3⟩
        · exact ⟨i, hi, Nat.le_refl _, rfl, hm⟩
    have hlf : ∀ j (hj : j < asks.length), asks[j] ∉ asks.take j → (lev s.h asks)[j]'(by rw [lev_len]; exact hj) = nth s.h asks[j] := fun j hj hn => by
      rw [lev_at hj, lvH_not _ (inR_take ha.2 j) h5 (ha.2 _ (List.getElem_mem hj)).1 hn]
    have hkn : asks[k] ∉ asks.take k := fun hm => by
      obtain ⟨j, hj, ej⟩ := List.mem_take_iff_getElem.1 hm
      have hjl : j < asks.length := by omega
      obtain ⟨j', hj', h1, h2, h3⟩ := hfst j hjl ⟨hjl, by rw [ej]; omega⟩
      have e1 := hlf j' hj' h3
      have e2 : asks[j'] = asks[k] := by rw [h2, ej]
      have := hall j' hj' (by rw [eok_iff]; simp only; rw [e1, e2]; omega)
      rw [e1, e2] at this
      omega
    have hk0 := hlf k hkl hkn
    refine poor_eq (.inr ⟨k, rfl, hkl, ⟨hkl, by omega⟩, fun i hi _ _ ci => ?_⟩)
    obtain ⟨j, hj, h1, h2, h3⟩ := hfst i hi ci
    have e1 := hlf j hj h3
    have := hall j hj (by rw [eok_iff]; simp only; rw [e1, h2]; exact ci.2)
    rw [e1, hk0, h2] at this
    omega
/-- What the program's order of places says. -/
def GOrd (s : Shr) (asks : List Int) (G : List Nat) : Prop :=
  giveA s asks = G.map (own_ asks) ∧ (nextO s asks = match G with | [] => -1 | k :: _ => (k : Int)) ∧ (∀ i ∈ G, i < asks.length) ∧ G.length ≤ 12
theorem gord_no {s : Shr} {asks : List Int} (h : ¬ (shareB s = true ∧ okA asks)) : GOrd s asks [] :=
  ⟨giveA_no h, nextO_no fun hh => h ⟨hh.1, hh.2.1⟩, by simp, by simp⟩
theorem gord_yes {s : Shr} {asks : List Int} {K : List Nat} (h : shareB s = true) (ha : okA asks) (hK : OrdN (lev s.h asks) asks.length K) : GOrd s asks (gk s.m s.h asks K (s.t - sm s.h).toNat asks.length) := by
  have hl := ha.1
  have e : gk s.m s.h asks K (s.t - sm s.h).toNat asks.length = (gets s.m s.h asks K).take (s.t - sm s.h).toNat := gk_all (by rw [hK.1]; exact Nat.le_refl _)
  refine ⟨?_, ?_, fun i hi => (ordN_perm hK i).1 (gk_mem hi), Nat.le_trans (gk_len _ _ _ _ _ _) hl⟩
  · rw [giveA_yes h ha, e, gets_give hK]
  · rw [e]; exact gets_next h ha hK
end Go.Proofs.Ytmpiigjkmodekaa.Sha
