/-
  What the program's allDifferent answers. Condition: the list lies in memory.
-/
import Derived.Test.YtfophplmdljhbaaBase
namespace Go.Proofs.Ytfophplmdljhbaa
open Go.RowKit

theorem Sees.itake {w : World} {B : Nat} {A : Option Addr} {l : List Int} (h : Sees w B A (ints l)) (k : Nat) : Sees w B A (ints (l.take k)) := by
  have e : ints (l.take k) = (ints l).take k := by simp [ints]
  rw [e]; exact h.take k
theorem nodup_step {l : List Int} {k : Nat} (hk : k < l.length) (h : (l.take k).Nodup) (hx : l[k] ∉ l.take k) : (l.take (k + 1)).Nodup := by
  rw [List.take_succ_eq_append_getElem hk]
  exact List.nodup_append.2 ⟨h, by simp, fun a ha b hb => by rw [List.mem_singleton] at hb; subst hb; exact fun e => hx (e ▸ ha)⟩
theorem nodup_not {l : List Int} {k : Nat} (hk : k < l.length) (h : l[k] ∈ l.take k) : decide l.Nodup = false := by
  refine decide_eq_false fun hn => ?_
  have h1 : (l.take (k + 1)).Nodup := hn.sublist (List.take_sublist _ _)
  rw [List.take_succ_eq_append_getElem hk] at h1
  exact (List.nodup_append.1 h1).2.2 _ h _ (by simp) rfl
theorem placeOf_len {A : Option Addr} {n c : Nat} {l : List Int} {x : Int} {w : World} {B : Nat} (hl : l.length = n) (h : Sees w B A (ints l)) (hn : l.length ≤ 4611686018427387904) :
    Calls Try.prog 36 #[.slice A n c, .int .i64 x] w fun e w' => e = .returned (.int .i64 (Line.place l x)) ∧ w = w' := by
  subst hl; exact placeOf_any A c l x w h hn
set_option maxHeartbeats 1000000 in
theorem allDifferent_any (A : Option Addr) (c : Nat) (l : List Int) (w : World) {B : Nat} (h : Sees w B A (ints l)) (hc : l.length ≤ c) (hn : l.length ≤ 4194304) :
    Calls Try.prog 23 #[.slice A l.length c] w fun e w' => e = .returned (.bool (decide l.Nodup)) ∧ w = w' := by
  have HN := hid hn; clear hn
  go_enter Try.func23, Try.ntmps23
  go_wp2
  go_loop [7] (fun i => ∃ k : Nat, k ≤ l.length ∧ i = .int .i64 k ∧ Hid ((l.take k).Nodup)) (fun i => l.length - (intOf i).toNat)
  case atStart => exact ⟨0, Nat.zero_le _, rfl, hid (by simp)⟩
  case round =>
    obtain ⟨k, hk, rfl, HA⟩ := hrel
    have hn := HN.out
    by_cases hlt : k < l.length
    · have hi' : (k : Int) < (l.length : Int) := by omega
      have hkc : (k : Int) ≤ (c : Int) := by omega
      have hk0 : (0 : Int) ≤ (k : Int) := by omega
      have hst := h.itake k
      have HKL := hid (show (l.take k).length = k by rw [List.length_take]; omega)
      obtain ⟨b, o, rfl, _, hcell⟩ := h.int hlt
      have HS := hid (fun (hh : l[k] ∉ l.take k) => nodup_step hlt HA.out hh)
      have HM := hid (fun (hh : l[k] ∈ l.take k) => nodup_not hlt hh)
      obtain ⟨x, hx⟩ : ∃ x, x = l[k] := ⟨_, rfl⟩
      rw [← hx] at hcell HS HM
      clear hx
      by_cases hm : x ∈ l.take k
      · have HX := hid (HM.out hm)
        have hp := Line.place_lt hm
        obtain ⟨V, hV⟩ : ∃ V, V = Line.place (l.take k) x := ⟨_, rfl⟩
        have EV : Hid (Line.place (l.take k) x = V) := hid hV.symm
        rw [← hV] at hp
        have hne : (V != -1) = true := by simp; omega
        clear hV hp hm
        go_wp2_with fail
        refine (placeOf_len HKL.out hst (by rw [HKL.out]; omega)).mono ?_
        rintro e w' ⟨he, rfl⟩
        rw [EV.out] at he
        subst he
        go_wp2
        go_ret
        exact ⟨ret_bool HX.out.symm, rfl⟩
      · have HX := hid (HS.out hm)
        have EV := hid (Line.place_no hm)
        clear hm
        go_wp2_with fail
        refine (placeOf_len HKL.out hst (by rw [HKL.out]; omega)).mono ?_
        rintro e w' ⟨he, rfl⟩
        rw [EV.out] at he
        subst he
        go_wp2
        go_round
        case rel => exact ⟨k + 1, by omega, by go_num, HX⟩
        case measure => simp [intOf]; omega
    · have hi' : ¬ (k : Int) < (l.length : Int) := by omega
      have HX := hid (show decide l.Nodup = true by have := HA.out; rw [take_whole hlt] at this; exact decide_eq_true this)
      go_wp2
      go_ret
      exact ⟨ret_bool HX.out.symm, rfl⟩

end Go.Proofs.Ytfophplmdljhbaa
