/-
  What the program's leasesBeyond and placesByFrom answer. Condition: the list lies in memory.
-/
import Derived.Test.YtmaocmgnkdieeaaLsH
import Derived.Test.YtmaocmgnkdieeaaMostMath
import Derived.Test.YtmaocmgnkdieeaaOwnI
import Derived.Test.YtmaocmgnkdieeaaOrdP
import Derived.Test.YtmaocmgnkdieeaaApp
namespace Go.Proofs.Ytmaocmgnkdieeaa
open Go.RowKit Lse

set_option maxHeartbeats 2000000 in
theorem leasesBeyond_any (A : Option Addr) (c : Nat) (l : List L) (t : Int) (w : World) (h : Sees w w.heap.size A (lvals l)) (hn : l.length ≤ 4194304) :
    Calls Try.prog 20 #[.slice A l.length c, .int .i64 t] w fun e w' => ∃ v, e = .returned v ∧ OwnL w' w.heap.size v (beyond l t) ∧ Below w.heap.size w w' := by
  obtain ⟨i0, hi0, hz0, hz1, hz2⟩ := info_parts leaseInfo
  have HN := hid hn
  clear hn
  go_enter Try.func20, Try.ntmps20
  go_wp2
  go_loopw [5, 10] (fun v i wr => ∃ k : Nat, k ≤ l.length ∧ i = .int .i64 k ∧ OwnL wr w.heap.size v (beyond (l.take k) t) ∧ Below w.heap.size w wr) (fun _ i _ => l.length - (intOf i).toNat)
  case atStart => exact ⟨0, Nat.zero_le _, rfl, OwnS.none_ _ _, Below.refl _ _⟩
  case round =>
    obtain ⟨k, hk, rfl, ho, hb⟩ := hrel
    have hn := HN.out
    by_cases hlt : k < l.length
    · have hi : (k : Int) < (l.length : Int) := by omega
      obtain ⟨b, o, rfl, hbl, e0, e1, e2, e3⟩ := (h.below hb).lease hlt
      have hz := hb.size
      have hbw : b < wr.heap.size := by omega
      have HY : Hid (t < l[k].u → beyond (l.take (k + 1)) t = beyond (l.take k) t ++ [l[k]]) := hid (beyond_yes hlt)
      have HNO : Hid (¬ t < l[k].u → beyond (l.take (k + 1)) t = beyond (l.take k) t) := hid (beyond_no hlt)
      have hkl : (beyond (l.take k) t).length ≤ 4194304 := by have := beyond_len (l.take k) t; rw [List.length_take] at this; omega
      obtain ⟨y, hy⟩ : ∃ y, y = l[k] := ⟨_, rfl⟩
      rw [← hy] at e0 e1 e2 e3 HY HNO
      clear hy
      obtain ⟨R, hR⟩ : ∃ R, R = beyond (l.take k) t := ⟨_, rfl⟩
      rw [← hR] at HY HNO ho hkl
      clear hR
      by_cases hlate : t < y.u
      · have HS := hid (HY.out hlate)
        clear HY HNO
        go_wp2_with (at_builtin; refine wpList_append_own _ rfl _ _ 23 rfl w.heap.size 30 i0 (.agg #[.int .i64 0, .int .i64 0, .int .i64 0, .int .i64 0]) 4 32 Try.underlying23 hi0 hz0 hz1 hz2 rfl (by decide) _ _ _ rfl ((ho.alloc _).alloc _).out ⟨wr.heap.size + 1, 0, none⟩ 1 1 [.int .i64 y.c, .int .i64 y.o, .int .i64 y.f, .int .i64 y.u] rfl rfl (by simpa using cells_new (wr.alloc (.cells #[.int .i64 y.c, .int .i64 y.o, .int .i64 y.f, .int .i64 y.u] 30)) [.int .i64 y.c, .int .i64 y.o, .int .i64 y.f, .int .i64 y.u] 30) ?c2 ?c3 ?c4 ?c5 ?_)
        case c2 => simp [Value.oneCell']
        case c3 => unfold maxLen; omega
        case c4 => omega
        case c5 => first | omega | (simp; omega)
        case _ =>
          intro v1 w2 h1 hg1 _
          have ho' := ho.alloc (.cells #[.int .i64 y.c, .int .i64 y.o, .int .i64 y.f, .int .i64 y.u] 30)
          have hba := hb.alloc hb.size (.cells #[.int .i64 y.c, .int .i64 y.o, .int .i64 y.f, .int .i64 y.u] 30)
          obtain ⟨ho1, hb1⟩ := ho'.snoc (x := y) hba (Nat.le_refl _) h1 hg1
          rw [← HS.out] at ho1
          clear h1 hg1 ho' hba
          go_wp2
          go_roundw
          case rel => exact ⟨k + 1, by omega, by go_num, ho1, hb1⟩
          case measure => simp [intOf]; omega
      · have HS := hid (HNO.out hlate)
        clear HY HNO
        go_wp2
        go_roundw
        case rel => exact ⟨k + 1, by omega, by go_num, by rw [HS.out]; exact ho.alloc _, hb.alloc hb.size _⟩
        case measure => simp [intOf]; omega
    · have hi : ¬ (k : Int) < (l.length : Int) := by omega
      rw [take_whole hlt] at ho
      go_wp2
      go_ret
      exact ⟨_, rfl, ho, hb⟩

set_option maxHeartbeats 4000000 in
theorem placesByFrom_any (A : Option Addr) (c : Nat) (l : List L) (w : World) (h : Sees w w.heap.size A (lvals l)) (hn : l.length ≤ 12) :
    Calls Try.prog 15 #[.slice A l.length c] w fun e w' => ∃ (v : Value) (K : List Nat), e = .returned v ∧ Own w' w.heap.size v (nums K) ∧ Ord l l.length K ∧ Below w.heap.size w w' := by
  obtain ⟨i0, hi0, hz0, hz1, hz2⟩ := info_parts intInfo
  have HN := hid hn; clear hn
  go_enter Try.func15, Try.ntmps15
  go_wp2
  go_loopw [3, 8] (fun v i wr => ∃ (k : Nat), Hid (k ≤ l.length) ∧ i = .int .i64 k ∧ Own wr w.heap.size v ((l.take k).map L.f) ∧ Below w.heap.size w wr) (fun _ i _ => l.length - (intOf i).toNat)
  case atStart => exact ⟨0, hid (Nat.zero_le _), rfl, Own.none_ _ _, Below.refl _ _⟩
  case round =>
    obtain ⟨k, HK, rfl, ho, hb⟩ := hrel
    have hn := HN.out
    have hk := HK.out
    by_cases hlt : k < l.length
    · have hi : (k : Int) < (l.length : Int) := by omega
      have hz := hb.size
      obtain ⟨b, o, rfl, hbl, e0, e1, e2, e3⟩ := (h.below hb).lease hlt
      have hbw : b < wr.heap.size := by omega
      have hkl : ((l.take k).map L.f).length ≤ 12 := by rw [List.length_map, List.length_take]; omega
      have HT : Hid ((l.take (k + 1)).map L.f = (l.take k).map L.f ++ [l[k].f]) := hid (by rw [List.take_succ_eq_append_getElem hlt, List.map_append]; rfl)
      obtain ⟨y, hy⟩ : ∃ y, y = l[k] := ⟨_, rfl⟩
      rw [← hy] at e0 e1 e2 e3 HT
      clear hy
      obtain ⟨R, hR⟩ : ∃ R, R = (l.take k).map L.f := ⟨_, rfl⟩
      rw [← hR] at HT ho hkl
      clear hR
      go_wp2_with (at_builtin; refine wpList_append_own _ rfl _ _ 37 rfl w.heap.size 3 i0 (.int .i64 0) 1 8 Try.underlying37 hi0 hz0 hz1 hz2 rfl (by decide) _ _ _ rfl ((ho.below ((Below.refl _ _).alloc (Nat.le_refl _) _)).below ((Below.refl _ _).alloc (Nat.le_refl _) _)).out ⟨wr.heap.size + 1, 0, none⟩ 1 1 [.int .i64 y.f] rfl rfl (by simpa using cell_one_new (wr.alloc (.cells #[.int .i64 y.c, .int .i64 y.o, .int .i64 y.f, .int .i64 y.u] 30)) (.int .i64 y.f) 3) ?c2 ?c3 ?c4 ?c5 ?_)
      case c2 => simp [Value.oneCell']
      case c3 => unfold maxLen; omega
      case c4 => omega
      case c5 => first | omega | (simp; omega)
      case _ =>
        intro v1 w2 h1 hg1 _
        have hba := hb.alloc hb.size (.cells #[.int .i64 y.c, .int .i64 y.o, .int .i64 y.f, .int .i64 y.u] 30)
        obtain ⟨ho1, hb1⟩ := Own.snoc (x := y.f) (ho.below ((Below.refl _ _).alloc (Nat.le_refl _) (.cells #[.int .i64 y.c, .int .i64 y.o, .int .i64 y.f, .int .i64 y.u] 30))) hba (Nat.le_refl _) h1 hg1
        rw [← HT.out] at ho1
        clear h1 hg1 hba
        go_wp2
        go_roundw
        case rel => exact ⟨k + 1, hid (by omega), by go_num, ho1, hb1⟩
        case measure => simp [intOf]; omega
    · have hi : ¬ (k : Int) < (l.length : Int) := by omega
      rw [take_whole hlt] at ho
      have hlen : (l.map L.f).length = l.length := by simp
      obtain ⟨A1, c1, rfl, hs1⟩ := ho.form
      have HL := hid hlen
      have HO := hid (fun (n : Nat) (K : List Nat) (q : OrdN (l.map L.f) n K) => ord_of q)
      have hz := hb.size
      obtain ⟨R, hR⟩ : ∃ R, R = l.map L.f := ⟨_, rfl⟩
      rw [← hR] at HL HO ho hs1 ⊢
      clear hlen hR
      go_wp2_with fail
      with_reducible refine (placesInOrder_any A1 c1 R _ hs1 (by have := HL.out; omega)).mono ?_
      rintro e w2 ⟨v2, K, rfl, ho2, hK, hb2⟩
      go_wp2
      go_ret
      exact ⟨_, K, rfl, ho2.mono hz, by rw [← HL.out]; exact HO.out _ _ hK, hb.trans (hb2.mono hz)⟩

end Go.Proofs.Ytmaocmgnkdieeaa
