/-
  What the program's placesInOrder answers. Condition: the list lies in memory.
-/
import Derived.Test.YtmpiigjkmodekaaOrdMath
import Derived.Test.YtmpiigjkmodekaaStrip
import Derived.Test.YtmpiigjkmodekaaOwnI
import Derived.Test.YtmpiigjkmodekaaApp
namespace Go.Proofs.Ytmpiigjkmodekaa
open Go.RowKit Lse

def nums (K : List Nat) : List Int := K.map fun (i : Nat) => (i : Int)
theorem nums_len (K : List Nat) : (nums K).length = K.length := by simp [nums]
theorem nums_snoc (K : List Nat) (i : Nat) : nums (K ++ [i]) = nums K ++ [(i : Int)] := by simp [nums]
theorem nums_set (K : List Nat) (i v : Nat) : (ints (nums K)).set i (.int .i64 v) = ints (nums (K.set i v)) := by simp [ints, nums, List.map_set]
/-- An own row of some numbers lies in one block. -/
theorem own_rowS {w : World} {base : Nat} {v : Value} {ys : List Int} (h : Own w base v ys) (hn : 0 < ys.length) : ∃ g c, v = .slice (some ⟨g, 0, none⟩) ys.length c ∧ ys.length ≤ c := by
  rcases h.2 with ⟨_, e⟩ | ⟨g, cap, cur, e, _, _, h1, h2, _⟩
  · omega
  · exact ⟨g, cap, e, h1⟩
theorem row_num {w : World} {base g n c : Nat} {K : List Nat} (h : w.ownsRow base 3 1 (.slice (some ⟨g, 0, none⟩) n c) n (ints (nums K))) {i : Nat} (hi : i < K.length) : w.cell? ⟨g, i, none⟩ = some (.int .i64 (ats K i)) := by
  obtain ⟨b, o, e, _, hc⟩ := (Sees.of_own h).int (show i < (nums K).length by rw [nums_len]; exact hi)
  injection e with e
  injection e with e1 e2
  subst e1 e2
  rw [ats_get hi]
  simpa [nums] using hc
set_option maxHeartbeats 4000000 in
theorem placesInOrder_any (A : Option Addr) (c : Nat) (l : List Int) (w : World) (h : Sees w w.heap.size A (ints l)) (hn : l.length ≤ 12) :
    Calls Try.prog 27 #[.slice A l.length c] w fun e w' => ∃ (v : Value) (K : List Nat), e = .returned v ∧ Own w' w.heap.size v (nums K) ∧ OrdN l l.length K ∧ Below w.heap.size w w' := by
  obtain ⟨i0, hi0, hz0, hz1, hz2⟩ := info_parts intInfo
  have HN := hid hn; clear hn
  go_enter Try.func27, Try.ntmps27
  go_wp2
  go_loopw [3, 9] (fun v i wr => ∃ (k : Nat) (K : List Nat), Hid (k ≤ l.length) ∧ i = .int .i64 k ∧ Own wr w.heap.size v (nums K) ∧ Hid (OrdN l k K) ∧ Below w.heap.size w wr) (fun _ i _ => l.length - (intOf i).toNat)
  case atStart => exact ⟨0, [], hid (Nat.zero_le _), rfl, Own.none_ _ _, hid (OrdN.nil l), Below.refl _ _⟩
  case round =>
    obtain ⟨k, K, HK, rfl, ho, HO, hb⟩ := hrel
    have hn := HN.out
    have hk := HK.out
    by_cases hlt : k < l.length
    · have hi : (k : Int) < (l.length : Int) := by omega
      have hz := hb.size
      have HSK := hid (sinkN_start HO.out)
      have hkl : (nums K).length ≤ 12 := by rw [nums_len]; have := HO.out.1; omega
      obtain ⟨R, hR⟩ : ∃ R, R = nums K := ⟨_, rfl⟩
      have HR : Hid (nums (K ++ [k]) = R ++ [(k : Int)]) := hid (by rw [hR]; exact nums_snoc K k)
      rw [← hR] at ho hkl
      clear hR
      go_wp2_with (at_builtin; refine wpList_append_own _ rfl _ _ 23 rfl w.heap.size 3 i0 (.int .i64 0) 1 8 Try.underlying23 hi0 hz0 hz1 hz2 rfl (by decide) _ _ _ rfl (ho.below ((Below.refl _ _).alloc (Nat.le_refl _) _)).out ⟨wr.heap.size, 0, none⟩ 1 1 [.int .i64 k] rfl rfl (cell_one_new _ _ _) ?c2 ?c3 ?c4 ?c5 ?_)
      case c2 => simp [Value.oneCell']
      case c3 => unfold maxLen; omega
      case c4 => omega
      case c5 => simp; omega
      case _ =>
        intro v1 w3 h1 hg1 _
        obtain ⟨ho1, hb1⟩ := ho.snoc (x := (k : Int)) hb (Nat.le_refl _) h1 hg1
        rw [← HR.out] at ho1
        clear h1 hg1 ho hb HR hkl
        obtain ⟨g, cc, rfl, _⟩ := own_rowS ho1 (by rw [nums_len]; simp)
        have hlen : (nums (K ++ [k])).length = k + 1 := by rw [nums_len, List.length_append, HO.out.1]; rfl
        have hr1 : w3.ownsRow w.heap.size 3 1 (.slice (some ⟨g, 0, none⟩) (k + 1) cc) (k + 1) (ints (nums (K ++ [k]))) := by have := ho1.out; rw [hlen] at this; exact this
        obtain ⟨n, hnn⟩ : ∃ n, n = k + 1 := ⟨_, rfl⟩
        rw [hlen, ← hnn]
        rw [← hnn] at hr1
        have HNN := hid hnn
        clear hlen ho1 hnn
        go_wp2
        go_loopw [5] (fun i wr => ∃ (j : Nat) (K : List Nat), i = .int .i64 j ∧ Hid (SinkN l k j K) ∧ wr.ownsRow w.heap.size 3 1 (.slice (some ⟨g, 0, none⟩) n cc) n (ints (nums K)) ∧ Below w.heap.size w wr) (fun i _ => (intOf i).toNat)
        case atStart => exact ⟨k, _, rfl, HSK, hr1, hb1⟩
        case round =>
          clear hr1 hb1 HSK
          obtain ⟨j, J, rfl, HJ, hr, hb⟩ := hrel
          have hn := HN.out
          by_cases h0 : j = 0
          · have HE := hid (sinkN_end HJ.out (.inl h0))
            have hj : ¬ (0 : Int) < (j : Int) := by omega
            have hj' : ¬ 0 < j := by omega
            clear h0
            go_wp2
            go_quiet (fail)
            go_wp2
            go_roundw
            case rel => exact ⟨k + 1, J, hid (by omega), by go_num, by unfold Own; rw [nums_len, HE.out.1, ← HNN.out]; exact hr, HE, below_drewN hb _⟩
            case measure => simp [intOf]; omega
          · obtain ⟨q, hq⟩ : ∃ q, q + 1 = j := ⟨j - 1, by omega⟩
            have hjn : j < n := by have := HJ.out.2.2.2.1; have := HNN.out; omega
            have hJn : J.length = n := by rw [HNN.out]; exact HJ.out.1
            have hqj : j - 1 = q := by omega
            have HS1 : Hid (frN l k < frN l (ats J q) → SinkN l k q (swp J j)) := hid (by have := sinkN_step HJ.out (by omega); rw [hqj] at this; exact this)
            have HE1 : Hid (¬ frN l k < frN l (ats J q) → OrdN l (k + 1) J) := hid (fun hh => sinkN_end HJ.out (.inr (by rw [hqj]; exact hh)))
            have hal : ats J j = k := HJ.out.2.2.2.2.1
            have hbl : ats J q < l.length := by
              have := HJ.out.2.2.1 (ats J q) (by rw [ats_get (show q < J.length by omega)]; exact List.getElem_mem _)
              omega
            have ep := row_num hr (show j < J.length by omega)
            have eq := row_num hr (show q < J.length by omega)
            rw [hal] at ep
            have hfr := row_thaw hr
            obtain ⟨hgb, hgw⟩ := row_base hr
            have hrd : ∀ d, (wr.drewN d).ownsRow w.heap.size 3 1 (.slice (some ⟨g, 0, none⟩) n cc) n (ints (nums J)) := fun _ => hr
            have hx1 : ∀ d, ((wr.drewN d).setCell ⟨g, q, none⟩ (.int .i64 k)).ownsRow w.heap.size 3 1 (.slice (some ⟨g, 0, none⟩) n cc) n (ints (nums (J.set q k))) := fun d => by have := row_put (hrd d) q (.int .i64 k); rw [nums_set] at this; exact this
            have ex1 : ∀ d, ((wr.drewN d).setCell ⟨g, q, none⟩ (.int .i64 k)).cell? ⟨g, j, none⟩ = some (.int .i64 k) := fun d => by
              have := row_num (hx1 d) (show j < (J.set q k).length by rw [List.length_set]; omega)
              rw [ats_set (by omega), if_neg (by omega), hal] at this
              exact this
            have hfr1 : ∀ d i, ((wr.drewN d).setCell ⟨g, q, none⟩ (.int .i64 k)).frozen? ⟨g, i, none⟩ = false := fun d => row_thaw (hx1 d)
            have hsw : (J.set q k).set j (ats J q) = swp J j := by unfold swp; rw [hal, hqj]
            have HR2 : Hid (∀ d, (((wr.drewN d).setCell ⟨g, q, none⟩ (.int .i64 k)).setCell ⟨g, j, none⟩ (.int .i64 (ats J q))).ownsRow w.heap.size 3 1 (.slice (some ⟨g, 0, none⟩) n cc) n (ints (nums (swp J j)))) := hid fun d => by
              have := row_put (hx1 d) j (.int .i64 (ats J q))
              rw [nums_set, hsw] at this
              exact this
            have HB2 : Hid (∀ d, Below w.heap.size w (((wr.drewN d).setCell ⟨g, q, none⟩ (.int .i64 k)).setCell ⟨g, j, none⟩ (.int .i64 (ats J q)))) := hid fun d => ((below_drewN hb d).setCell (p := ⟨g, q, none⟩) hgb (.int .i64 k)).setCell (p := ⟨g, j, none⟩) hgb (.int .i64 (ats J q))
            clear hrd hx1
            obtain ⟨p, hp⟩ : ∃ p, p = ats J q := ⟨_, rfl⟩
            rw [← hp] at HS1 HE1 hbl eq HR2 HB2
            clear hp hsw hal
            obtain ⟨b, o, rfl, hbb, e2⟩ := (h.below hb).int hlt
            obtain ⟨b', o', he, _, f2⟩ := (h.below hb).int hbl
            injection he with he
            injection he with he1 he2
            subst he1 he2
            rw [← frN_at hlt] at e2
            rw [← frN_at hbl] at f2
            obtain ⟨u, hu⟩ : ∃ u, u = frN l k := ⟨_, rfl⟩
            obtain ⟨t, ht⟩ : ∃ t, t = frN l p := ⟨_, rfl⟩
            rw [← hu] at HS1 HE1 e2
            rw [← ht] at HS1 HE1 f2
            clear hu ht
            have hz := hb.size
            have hbw : b < wr.heap.size := by omega
            have hj0 : (0 : Int) < (j : Int) := by omega
            have hj0' : 0 < j := by omega
            have hn13 : n ≤ 13 := by have := HNN.out; omega
            have hw : IntKind.i64.wrap ((j : Int) - 1) = (q : Int) := by rw [IntKind.wrap_i64]; omega
            have hji : (j : Int) < (n : Int) := by omega
            have hqi : (q : Int) < (n : Int) := by omega
            have hq0 : (0 : Int) ≤ (q : Int) := by omega
            have hjz : (0 : Int) ≤ (j : Int) := by omega
            have hpi : (p : Int) < (l.length : Int) := by omega
            have hp0 : (0 : Int) ≤ (p : Int) := by omega
            have hk0 : (0 : Int) ≤ (k : Int) := by omega
            have HQ := hid hq
            have HJN := hid hJn
            clear hq hqj hJn h0
            by_cases hut : u < t
            · have HS := hid (HS1.out hut)
              clear HS1 HE1
              go_wp2
              go_quiet (fail)
              go_wp2
              go_roundw
              case rel => exact ⟨q, swp J j, by go_num, HS, HR2.out _, HB2.out _⟩
              case measure => have := HQ.out; simp [intOf]; omega
            · have HE := hid (HE1.out hut)
              clear HS1 HE1
              go_wp2
              go_quiet (fail)
              go_wp2
              go_roundw
              case rel => exact ⟨k + 1, J, hid (by omega), by go_num, by unfold Own; rw [nums_len, HJN.out]; exact hr, HE, below_drewN hb _⟩
              case measure => simp [intOf]; omega
    · have hi : ¬ (k : Int) < (l.length : Int) := by omega
      have hkk : k = l.length := by omega
      have HE : Hid (OrdN l l.length K) := hid (by rw [← hkk]; exact HO.out)
      clear hkk
      go_wp2
      go_ret
      exact ⟨_, rfl, K, ho, HE.out, hb⟩

end Go.Proofs.Ytmpiigjkmodekaa
