/-
  What the model's RunNest, KeptWork and CleanUp answer. Condition: the lists lie in memory.
-/
import Derived.Test.YtocaddibdiikpaaNsF
import Derived.Test.YtocaddibdiikpaaNsG
namespace Go.Proofs.Ytocaddibdiikpaa
open Go.RowKit Nes

set_option maxHeartbeats 400000 in
theorem toInt_any (b : Bool) (w : World) : Calls Try.prog 38 #[.bool b] w fun e w' => e = .returned (.int .i64 (if b = true then 1 else 0)) ∧ w = w' := by
  cases b
  · go_enter Try.func38, Try.ntmps38
    go_wp2
    go_ret
    exact ⟨rfl, rfl⟩
  · go_enter Try.func38, Try.ntmps38
    go_wp2
    go_ret
    exact ⟨rfl, rfl⟩

set_option maxHeartbeats 8000000 in
theorem sRunNest_any (A : Option Addr) (c : Nat) (l : List Int) (w : World) (h : Sees w w.heap.size A (ints l)) (hn : l.length ≤ 4194304) :
    Calls Try.prog 19 #[.slice A l.length c] w (RunAns l w) := by
  have HN := hid hn
  clear hn
  by_cases hl : l.length ≤ 16
  · skip
    have HL := hid hl
    have hl16 : (l.length : Int) ≤ 16 := by omega
    have hl17 : ¬ (l.length : Int) > 16 := by omega
    have hl18 : ¬ (16 : Int) < (l.length : Int) := by omega
    clear hl
    have hB1 := Below.refl w.heap.size w
    have hB2 := hB1.alloc hB1.size (.cells #[.int .i64 0, .int .i64 0, .slice none 0 0, .bool false] 25)
    clear hB1
    have r3 : At (w.alloc (.cells #[.int .i64 0, .int .i64 0, .slice none 0 0, .bool false] 25)) (w.heap.size) 25 #[.int .i64 0, .int .i64 0, .slice none 0 0, .bool false] := At.newAt _ _ (by first | rfl | (simp; done) | (simp; omega))
    have hB4 := hB2.alloc hB2.size (.cells #[] 3)
    have r5 := r3.alloc (.cells #[] 3)
    clear hB2 r3
    have hB6 := hB4.alloc hB4.size (.cells #[.int .i64 0, .int .i64 0, .slice (some ⟨w.heap.size + 1, 0, none⟩) 0 0, .bool false] 25)
    have r7 := r5.alloc (.cells #[.int .i64 0, .int .i64 0, .slice (some ⟨w.heap.size + 1, 0, none⟩) 0 0, .bool false] 25)
    clear hB4 r5
    have t8 : At (((w.alloc (.cells #[.int .i64 0, .int .i64 0, .slice none 0 0, .bool false] 25)).alloc (.cells #[] 3)).alloc (.cells #[.int .i64 0, .int .i64 0, .slice (some ⟨w.heap.size + 1, 0, none⟩) 0 0, .bool false] 25)) (w.heap.size + 2) 25 #[.int .i64 0, .int .i64 0, .slice (some ⟨w.heap.size + 1, 0, none⟩) 0 0, .bool false] := At.newAt _ _ (by first | rfl | (simp; done) | (simp; omega))
    go_enter Try.func19, Try.ntmps19
    obtain ⟨q0, q1, q2, q3, ql, qf⟩ := (⟨r7.cell 0, r7.cell 1, r7.cell 2, r7.cell 3, r7.lt, r7.frozen⟩ : _ ∧ _ ∧ _ ∧ _ ∧ _ ∧ _)
    obtain ⟨y0, y1, y2, y3, yl, yf⟩ := (⟨t8.cell 0, t8.cell 1, t8.cell 2, t8.cell 3, t8.lt, t8.frozen⟩ : _ ∧ _ ∧ _ ∧ _ ∧ _ ∧ _)
    have ne_qy : ¬ w.heap.size = w.heap.size + 2 := by omega
    have ne_yq : ¬ w.heap.size + 2 = w.heap.size := by omega
    go_wp2_with fail
    go_loopw [5, 6] (fun n i wr => ∃ (k : Nat) (B : Option Addr) (d : Nat) (S : Nst) (N : Int), k ≤ l.length ∧ i = .int .i64 k ∧ n = .int .i64 N ∧ Hid (S = (acc (l.take k)).s) ∧ Hid (N = (acc (l.take k)).bad) ∧ At wr (w.heap.size + 2) 25 #[.int .i64 S.d, .int .i64 S.w, .slice B S.m.length d, .bool S.b] ∧ OwnM wr (w.heap.size + 1) B d S ∧ Below w.heap.size w wr ∧ At wr w.heap.size 25 #[.int .i64 0, .int .i64 0, .slice none 0 0, .bool false]) (fun _ i _ => l.length - (intOf i).toNat)
    case atStart => exact ⟨0, (some ⟨w.heap.size + 1, 0, none⟩), 0, zeroN, 0, Nat.zero_le _, rfl, rfl, hid rfl, hid rfl, t8, (show OwnM _ (w.heap.size + 1) (some ⟨w.heap.size + 1, 0, none⟩) 0 zeroN from Own.alloc4 (show Own ((w.alloc (.cells #[.int .i64 0, .int .i64 0, .slice none 0 0, .bool false] 25)).alloc (.cells #[] 3)) (w.heap.size + 1) (.slice (some ⟨w.heap.size + 1, 0, none⟩) 0 0) [] from made_at 3 1 (by first | rfl | simp) (Nat.le_refl _)) _), hB6, r7⟩
    case round =>
      clear hB6 r7 t8 q0 q1 q2 q3 ql qf y0 y1 y2 y3 yl yf ne_qy ne_yq
      obtain ⟨k, B, d, S, N, hk, rfl, rfl, HS, HNN, t0, o0, hB0, r0⟩ := hrel
      have t9 := t0
      clear t0
      have o10 := o0
      clear o0
      have hB11 := hB0
      clear hB0
      have r12 := r0
      clear r0
      have szr : w.heap.size + 2 < wr.heap.size := t9.lt
      have hok := hid (show Ok S by rw [HS.out]; exact acc_ok _)
      have HS4 := hid (show S.m.length ≤ 4194304 from Nat.le_trans (ok_len hok.out) (by decide))
      have HW := hid hok.out.2.1
      by_cases hlt : k < l.length
      · skip
        have hi : (k : Int) < (l.length : Int) := by omega
        obtain ⟨b, o, rfl, hbl, hc⟩ := (h.below hB11).int hlt
        have HKC := hid (fun (w1 : World) (hb1 : Below w.heap.size w w1) => Sees.cellAt (h.below hb1) hlt)
        have HNO := hid (fun e => acc_no hlt e)
        have HYES := hid (fun e => acc_yes hlt e)
        obtain ⟨hn1, hn2⟩ : 0 ≤ N ∧ N ≤ 16 := by rw [HNN.out]; have := acc_bd HL.out k; omega
        rw [← HS.out, ← HNN.out] at HNO HYES
        obtain ⟨x, hx⟩ : ∃ x, x = l[k] := ⟨_, rfl⟩
        rw [← hx] at hc HNO HYES HKC
        clear hx
        have hw1 : IntKind.i64.wrap (N + 1) = N + 1 := by rw [IntKind.wrap_i64]; omega
        obtain ⟨R, hR⟩ : ∃ R, R = stepS S x := ⟨_, rfl⟩
        have ER : Hid (stepS S x = R) := hid hR.symm
        rw [← hR] at HYES
        clear hR
        rcases hk2 : stepB S x with _ | _
        · skip
          obtain ⟨e1, e2, e3⟩ := HNO.out hk2
          have E1 := hid e1
          have E2 := hid e2
          have E3 := hid e3
          have EK := hid hk2
          clear e1 e2 e3 hk2
          have HV := hid (show nestB S = true from nestB_iff.2 hok.out)
          have yd := t9.drew
          have od := o10.drew
          have bd := hB11.drew
          have rd := r12.drew
          have hkd := hc
          obtain ⟨y0, y1, y2, y3, yl, yf⟩ := (⟨t9.cell 0, t9.cell 1, t9.cell 2, t9.cell 3, t9.lt, t9.frozen⟩ : _ ∧ _ ∧ _ ∧ _ ∧ _ ∧ _)
          obtain ⟨q0, q1, q2, q3, ql, qf⟩ := (⟨r12.cell 0, r12.cell 1, r12.cell 2, r12.cell 3, r12.lt, r12.frozen⟩ : _ ∧ _ ∧ _ ∧ _ ∧ _ ∧ _)
          have ne_yq : ¬ w.heap.size + 2 = w.heap.size := by omega
          have ne_qy : ¬ w.heap.size = w.heap.size + 2 := by omega
          obtain ⟨K9, hK9⟩ : ∃ K9, K9 = stepB S x := ⟨_, rfl⟩
          have EK9 : Hid (stepB S x = K9) := hid hK9.symm
          have HK9 := hid (hK9.trans EK.out)
          clear hK9
          go_upto_region 8 with fail
          go_cut [7, 8] from 21 to 29 (fun v7 v8 wx => ∃ (g8 : Nat) (Aa : Option Addr) (ca : Nat), v7 = .pointer (some ⟨g8, 0, none⟩) ∧ v8 = .bool K9 ∧ At wx g8 25 #[.int .i64 R.d, .int .i64 R.w, .slice Aa R.m.length ca, .bool R.b] ∧ w.heap.size + 2 < g8 ∧ At wx (w.heap.size + 2) 25 #[.int .i64 S.d, .int .i64 S.w, .slice B S.m.length d, .bool S.b] ∧ OwnM wx (w.heap.size + 1) B d S ∧ OwnM wx (w.heap.size + 1) Aa ca R ∧ Below w.heap.size w wx ∧ At wx w.heap.size 25 #[.int .i64 0, .int .i64 0, .slice none 0 0, .bool false])
          case first =>
            have hzd : w.heap.size + 1 ≤ wr.heap.size := by have := t9.lt; omega
            have nz1 : ¬ w.heap.size + 2 = wr.heap.size := by have := t9.lt; omega
            have nz2 : ¬ wr.heap.size = w.heap.size + 2 := by omega
            have nz3 : ¬ b = wr.heap.size := by have := t9.lt; omega
            have nz4 : ¬ wr.heap.size = b := by omega
            go_region_held3 (fun w' => w'.cell? ⟨w.heap.size + 2, 0, none⟩ = some (.int .i64 S.d) ∧ w'.cell? ⟨w.heap.size + 2, 1, none⟩ = some (.int .i64 S.w) ∧ w'.cell? ⟨w.heap.size + 2, 2, none⟩ = some (.slice B S.m.length d) ∧ w'.cell? ⟨w.heap.size + 2, 3, none⟩ = some (.bool S.b) ∧ w'.cell? ⟨b, o + k, none⟩ = some (.int .i64 x))
              (first | with_reducible exact ⟨y0, y1, y2, y3, hc⟩ | with_reducible exact ⟨a0, a1, a2, a3, hca⟩ | go_keep)
              (first
                | (go_at_call 35; (with_reducible refine (sstep_any S x B d _ (by first | exact od.sees | exact ((o10.alloc _).drew).sees) o10.cap HS4.out HV.out).mono ?_); rintro e wa hq9; obtain ⟨Aa, ca, he, hoa, hba⟩ := hq9; rw [ER.out, EK9.out] at he; rw [ER.out] at hoa; subst he; have pya := (by first | exact yd.below hba yd.lt | exact ((t9.alloc _).drew).below hba ((t9.alloc _).drew).lt : At wa (w.heap.size + 2) 25 #[.int .i64 S.d, .int .i64 S.w, .slice B S.m.length d, .bool S.b]); have pra := (by first | exact rd.below hba rd.lt | exact ((r12.alloc _).drew).below hba ((r12.alloc _).drew).lt : At wa w.heap.size 25 #[.int .i64 0, .int .i64 0, .slice none 0 0, .bool false]); have poa := (by first | exact od.below hba | exact ((o10.alloc _).drew).below hba : OwnM wa (w.heap.size + 1) B d S); have hoam := (by first | exact OwnM.mono hoa hzd | exact OwnM.mono hoa (Nat.le_trans hzd (Nat.le_of_lt (by simp))) : OwnM wa (w.heap.size + 1) Aa ca R); have hbA := (by first | exact bd.trans (hba.mono bd.size) | exact ((hB11.alloc hB11.size _).drew).trans (hba.mono ((hB11.alloc hB11.size _).drew).size) : Below w.heap.size w wa); have hza := (by first | exact hba.size | exact Nat.le_trans (Nat.le_of_lt (by simp)) hba.size : wr.heap.size ≤ wa.heap.size); have hca := HKC.out wa hbA; obtain ⟨a0, a1, a2, a3, al, af⟩ := pya.four; have na1 : ¬ w.heap.size + 2 = wa.heap.size := Nat.ne_of_lt al; have na2 : ¬ wa.heap.size = w.heap.size + 2 := fun e => Nat.ne_of_lt al e.symm; (try have pza := ((At.newAt 25 #[.int .i64 0, .int .i64 0, .slice none 0 0, .bool false] rfl).drew : At ((wr.alloc (.cells #[.int .i64 0, .int .i64 0, .slice none 0 0, .bool false] 25)).drew) wr.heap.size 25 #[.int .i64 0, .int .i64 0, .slice none 0 0, .bool false]).below hba (by simp)); (try have pzc := pza.cell); (try have pzf := pza.frozen))
                | fail)
            all_goals
              go_wp2_with fail
              clear a0 a1 a2 a3 af
              go_meet
              first
                | (obtain ⟨hp8, hg8⟩ := four_put (.int .i64 R.d) (.int .i64 R.w) (.slice Aa R.m.length ca) (.bool R.b) pza rfl
                   exact ⟨_, _, _, rfl, rfl, hp8, by omega, pya.past hg8 (by omega), poa.past4 pza hg8, hoam.past4 pza hg8, below_put hbA hg8 (by omega) hbA.size, pra.past hg8 (by omega)⟩)
                | exact ⟨_, _, _, rfl, rfl, At.newAt _ _ rfl, al, pya.alloc _, poa.alloc _, hoam.alloc _, hbA.alloc hbA.size _, pra.alloc _⟩
          case rest =>
            obtain ⟨g8, Aa, ca, rfl, rfl, pn8, hgt, pt8, pS8, pR8, hB8, pr8⟩ := hcut
            obtain rfl : K9 = false := HK9.out
            clear yd od bd t9 o10 hB11 rd r12 y0 y1 y2 y3 yl yf q0 q1 q2 q3 ql qf ne_yq ne_qy
            have n13 := pn8
            clear pn8
            have t14 := pt8
            clear pt8
            have o15 := pS8
            clear pS8
            have p16 := pR8
            clear pR8
            have hB17 := hB8
            clear hB8
            have r18 := pr8
            clear pr8
            skip
            skip
            obtain ⟨z0, z1, z2, z3, zl, zf⟩ := (⟨n13.cell 0, n13.cell 1, n13.cell 2, n13.cell 3, n13.lt, n13.frozen⟩ : _ ∧ _ ∧ _ ∧ _ ∧ _ ∧ _)
            obtain ⟨y0, y1, y2, y3, yl, yf⟩ := (⟨t14.cell 0, t14.cell 1, t14.cell 2, t14.cell 3, t14.lt, t14.frozen⟩ : _ ∧ _ ∧ _ ∧ _ ∧ _ ∧ _)
            obtain ⟨q0, q1, q2, q3, ql, qf⟩ := (⟨r18.cell 0, r18.cell 1, r18.cell 2, r18.cell 3, r18.lt, r18.frozen⟩ : _ ∧ _ ∧ _ ∧ _ ∧ _ ∧ _)
            have ne_zy : ¬ g8 = w.heap.size + 2 := by omega
            have ne_yz : ¬ w.heap.size + 2 = g8 := by omega
            have ne_zq : ¬ g8 = w.heap.size := by omega
            have ne_qz : ¬ w.heap.size = g8 := by omega
            have ne_yq : ¬ w.heap.size + 2 = w.heap.size := by omega
            have ne_qy : ¬ w.heap.size = w.heap.size + 2 := by omega
            go_wp2_with fail
            with_reducible refine (toInt_any _ _).mono ?_
            rintro e w' ⟨rfl, rfl⟩
            go_wp2
            go_roundw
            case rel => exact ⟨k + 1, B, d, S, (N + 1), by omega, by go_num, by first | rfl | go_num, hid E1.out.symm, hid (E2.out.symm), t14, o15, hB17, r18⟩
            case measure => simp [intOf]; omega
        · skip
          obtain ⟨e1, e2, e3⟩ := HYES.out hk2
          have E1 := hid e1
          have E2 := hid e2
          have E3 := hid e3
          have EK := hid hk2
          clear e1 e2 e3 hk2
          have HV := hid (show nestB S = true from nestB_iff.2 hok.out)
          have yd := t9.drew
          have od := o10.drew
          have bd := hB11.drew
          have rd := r12.drew
          have hkd := hc
          obtain ⟨y0, y1, y2, y3, yl, yf⟩ := (⟨t9.cell 0, t9.cell 1, t9.cell 2, t9.cell 3, t9.lt, t9.frozen⟩ : _ ∧ _ ∧ _ ∧ _ ∧ _ ∧ _)
          obtain ⟨q0, q1, q2, q3, ql, qf⟩ := (⟨r12.cell 0, r12.cell 1, r12.cell 2, r12.cell 3, r12.lt, r12.frozen⟩ : _ ∧ _ ∧ _ ∧ _ ∧ _ ∧ _)
          have ne_yq : ¬ w.heap.size + 2 = w.heap.size := by omega
          have ne_qy : ¬ w.heap.size = w.heap.size + 2 := by omega
          obtain ⟨K9, hK9⟩ : ∃ K9, K9 = stepB S x := ⟨_, rfl⟩
          have EK9 : Hid (stepB S x = K9) := hid hK9.symm
          have HK9 := hid (hK9.trans EK.out)
          clear hK9
          go_upto_region 8 with fail
          go_cut [7, 8] from 21 to 29 (fun v7 v8 wx => ∃ (g8 : Nat) (Aa : Option Addr) (ca : Nat), v7 = .pointer (some ⟨g8, 0, none⟩) ∧ v8 = .bool K9 ∧ At wx g8 25 #[.int .i64 R.d, .int .i64 R.w, .slice Aa R.m.length ca, .bool R.b] ∧ w.heap.size + 2 < g8 ∧ At wx (w.heap.size + 2) 25 #[.int .i64 S.d, .int .i64 S.w, .slice B S.m.length d, .bool S.b] ∧ OwnM wx (w.heap.size + 1) B d S ∧ OwnM wx (w.heap.size + 1) Aa ca R ∧ Below w.heap.size w wx ∧ At wx w.heap.size 25 #[.int .i64 0, .int .i64 0, .slice none 0 0, .bool false])
          case first =>
            have hzd : w.heap.size + 1 ≤ wr.heap.size := by have := t9.lt; omega
            have nz1 : ¬ w.heap.size + 2 = wr.heap.size := by have := t9.lt; omega
            have nz2 : ¬ wr.heap.size = w.heap.size + 2 := by omega
            have nz3 : ¬ b = wr.heap.size := by have := t9.lt; omega
            have nz4 : ¬ wr.heap.size = b := by omega
            go_region_held3 (fun w' => w'.cell? ⟨w.heap.size + 2, 0, none⟩ = some (.int .i64 S.d) ∧ w'.cell? ⟨w.heap.size + 2, 1, none⟩ = some (.int .i64 S.w) ∧ w'.cell? ⟨w.heap.size + 2, 2, none⟩ = some (.slice B S.m.length d) ∧ w'.cell? ⟨w.heap.size + 2, 3, none⟩ = some (.bool S.b) ∧ w'.cell? ⟨b, o + k, none⟩ = some (.int .i64 x))
              (first | with_reducible exact ⟨y0, y1, y2, y3, hc⟩ | with_reducible exact ⟨a0, a1, a2, a3, hca⟩ | go_keep)
              (first
                | (go_at_call 35; (with_reducible refine (sstep_any S x B d _ (by first | exact od.sees | exact ((o10.alloc _).drew).sees) o10.cap HS4.out HV.out).mono ?_); rintro e wa hq9; obtain ⟨Aa, ca, he, hoa, hba⟩ := hq9; rw [ER.out, EK9.out] at he; rw [ER.out] at hoa; subst he; have pya := (by first | exact yd.below hba yd.lt | exact ((t9.alloc _).drew).below hba ((t9.alloc _).drew).lt : At wa (w.heap.size + 2) 25 #[.int .i64 S.d, .int .i64 S.w, .slice B S.m.length d, .bool S.b]); have pra := (by first | exact rd.below hba rd.lt | exact ((r12.alloc _).drew).below hba ((r12.alloc _).drew).lt : At wa w.heap.size 25 #[.int .i64 0, .int .i64 0, .slice none 0 0, .bool false]); have poa := (by first | exact od.below hba | exact ((o10.alloc _).drew).below hba : OwnM wa (w.heap.size + 1) B d S); have hoam := (by first | exact OwnM.mono hoa hzd | exact OwnM.mono hoa (Nat.le_trans hzd (Nat.le_of_lt (by simp))) : OwnM wa (w.heap.size + 1) Aa ca R); have hbA := (by first | exact bd.trans (hba.mono bd.size) | exact ((hB11.alloc hB11.size _).drew).trans (hba.mono ((hB11.alloc hB11.size _).drew).size) : Below w.heap.size w wa); have hza := (by first | exact hba.size | exact Nat.le_trans (Nat.le_of_lt (by simp)) hba.size : wr.heap.size ≤ wa.heap.size); have hca := HKC.out wa hbA; obtain ⟨a0, a1, a2, a3, al, af⟩ := pya.four; have na1 : ¬ w.heap.size + 2 = wa.heap.size := Nat.ne_of_lt al; have na2 : ¬ wa.heap.size = w.heap.size + 2 := fun e => Nat.ne_of_lt al e.symm; (try have pza := ((At.newAt 25 #[.int .i64 0, .int .i64 0, .slice none 0 0, .bool false] rfl).drew : At ((wr.alloc (.cells #[.int .i64 0, .int .i64 0, .slice none 0 0, .bool false] 25)).drew) wr.heap.size 25 #[.int .i64 0, .int .i64 0, .slice none 0 0, .bool false]).below hba (by simp)); (try have pzc := pza.cell); (try have pzf := pza.frozen))
                | fail)
            all_goals
              go_wp2_with fail
              clear a0 a1 a2 a3 af
              go_meet
              first
                | (obtain ⟨hp8, hg8⟩ := four_put (.int .i64 R.d) (.int .i64 R.w) (.slice Aa R.m.length ca) (.bool R.b) pza rfl
                   exact ⟨_, _, _, rfl, rfl, hp8, by omega, pya.past hg8 (by omega), poa.past4 pza hg8, hoam.past4 pza hg8, below_put hbA hg8 (by omega) hbA.size, pra.past hg8 (by omega)⟩)
                | exact ⟨_, _, _, rfl, rfl, At.newAt _ _ rfl, al, pya.alloc _, poa.alloc _, hoam.alloc _, hbA.alloc hbA.size _, pra.alloc _⟩
          case rest =>
            obtain ⟨g8, Aa, ca, rfl, rfl, pn8, hgt, pt8, pS8, pR8, hB8, pr8⟩ := hcut
            obtain rfl : K9 = true := HK9.out
            clear yd od bd t9 o10 hB11 rd r12 y0 y1 y2 y3 yl yf q0 q1 q2 q3 ql qf ne_yq ne_qy
            have n19 := pn8
            clear pn8
            have t20 := pt8
            clear pt8
            have o21 := pS8
            clear pS8
            have p22 := pR8
            clear pR8
            have hB23 := hB8
            clear hB8
            have r24 := pr8
            clear pr8
            obtain ⟨z0, z1, z2, z3, zl, zf⟩ := (⟨n19.cell 0, n19.cell 1, n19.cell 2, n19.cell 3, n19.lt, n19.frozen⟩ : _ ∧ _ ∧ _ ∧ _ ∧ _ ∧ _)
            obtain ⟨y0, y1, y2, y3, yl, yf⟩ := (⟨t20.cell 0, t20.cell 1, t20.cell 2, t20.cell 3, t20.lt, t20.frozen⟩ : _ ∧ _ ∧ _ ∧ _ ∧ _ ∧ _)
            obtain ⟨q0, q1, q2, q3, ql, qf⟩ := (⟨r24.cell 0, r24.cell 1, r24.cell 2, r24.cell 3, r24.lt, r24.frozen⟩ : _ ∧ _ ∧ _ ∧ _ ∧ _ ∧ _)
            have ne_zy : ¬ g8 = w.heap.size + 2 := by omega
            have ne_yz : ¬ w.heap.size + 2 = g8 := by omega
            have ne_zq : ¬ g8 = w.heap.size := by omega
            have ne_qz : ¬ w.heap.size = g8 := by omega
            have ne_yq : ¬ w.heap.size + 2 = w.heap.size := by omega
            have ne_qy : ¬ w.heap.size = w.heap.size + 2 := by omega
            have n25 := n19.past (grown_set wc (w.heap.size + 2) 0 (.int .i64 R.d)) (by omega)
            have o26 := o21.past4 t20 (grown_set wc (w.heap.size + 2) 0 (.int .i64 R.d))
            have p27 := p22.past4 t20 (grown_set wc (w.heap.size + 2) 0 (.int .i64 R.d))
            have hB28 := below_put hB23 (grown_set wc (w.heap.size + 2) 0 (.int .i64 R.d)) (by omega) (by have := hB23.size; omega)
            have r29 := r24.past (grown_set wc (w.heap.size + 2) 0 (.int .i64 R.d)) (by omega)
            have t30 : At (wc.setCell ⟨w.heap.size + 2, 0, none⟩ (.int .i64 R.d)) (w.heap.size + 2) 25 #[.int .i64 R.d, .int .i64 S.w, .slice B S.m.length d, .bool S.b] := by simpa using t20.set 0 (.int .i64 R.d)
            clear n19 o21 p22 hB23 r24 t20
            have n31 := n25.past (grown_set (wc.setCell ⟨w.heap.size + 2, 0, none⟩ (.int .i64 R.d)) (w.heap.size + 2) 1 (.int .i64 R.w)) (by omega)
            have o32 := o26.past4 t30 (grown_set (wc.setCell ⟨w.heap.size + 2, 0, none⟩ (.int .i64 R.d)) (w.heap.size + 2) 1 (.int .i64 R.w))
            have p33 := p27.past4 t30 (grown_set (wc.setCell ⟨w.heap.size + 2, 0, none⟩ (.int .i64 R.d)) (w.heap.size + 2) 1 (.int .i64 R.w))
            have hB34 := below_put hB28 (grown_set (wc.setCell ⟨w.heap.size + 2, 0, none⟩ (.int .i64 R.d)) (w.heap.size + 2) 1 (.int .i64 R.w)) (by omega) (by have := hB28.size; omega)
            have r35 := r29.past (grown_set (wc.setCell ⟨w.heap.size + 2, 0, none⟩ (.int .i64 R.d)) (w.heap.size + 2) 1 (.int .i64 R.w)) (by omega)
            have t36 : At ((wc.setCell ⟨w.heap.size + 2, 0, none⟩ (.int .i64 R.d)).setCell ⟨w.heap.size + 2, 1, none⟩ (.int .i64 R.w)) (w.heap.size + 2) 25 #[.int .i64 R.d, .int .i64 R.w, .slice B S.m.length d, .bool S.b] := by simpa using t30.set 1 (.int .i64 R.w)
            clear n25 o26 p27 hB28 r29 t30
            have n37 := n31.past (grown_set ((wc.setCell ⟨w.heap.size + 2, 0, none⟩ (.int .i64 R.d)).setCell ⟨w.heap.size + 2, 1, none⟩ (.int .i64 R.w)) (w.heap.size + 2) 2 (.slice Aa R.m.length ca)) (by omega)
            have o38 := o32.past4 t36 (grown_set ((wc.setCell ⟨w.heap.size + 2, 0, none⟩ (.int .i64 R.d)).setCell ⟨w.heap.size + 2, 1, none⟩ (.int .i64 R.w)) (w.heap.size + 2) 2 (.slice Aa R.m.length ca))
            have p39 := p33.past4 t36 (grown_set ((wc.setCell ⟨w.heap.size + 2, 0, none⟩ (.int .i64 R.d)).setCell ⟨w.heap.size + 2, 1, none⟩ (.int .i64 R.w)) (w.heap.size + 2) 2 (.slice Aa R.m.length ca))
            have hB40 := below_put hB34 (grown_set ((wc.setCell ⟨w.heap.size + 2, 0, none⟩ (.int .i64 R.d)).setCell ⟨w.heap.size + 2, 1, none⟩ (.int .i64 R.w)) (w.heap.size + 2) 2 (.slice Aa R.m.length ca)) (by omega) (by have := hB34.size; omega)
            have r41 := r35.past (grown_set ((wc.setCell ⟨w.heap.size + 2, 0, none⟩ (.int .i64 R.d)).setCell ⟨w.heap.size + 2, 1, none⟩ (.int .i64 R.w)) (w.heap.size + 2) 2 (.slice Aa R.m.length ca)) (by omega)
            have t42 : At (((wc.setCell ⟨w.heap.size + 2, 0, none⟩ (.int .i64 R.d)).setCell ⟨w.heap.size + 2, 1, none⟩ (.int .i64 R.w)).setCell ⟨w.heap.size + 2, 2, none⟩ (.slice Aa R.m.length ca)) (w.heap.size + 2) 25 #[.int .i64 R.d, .int .i64 R.w, .slice Aa R.m.length ca, .bool S.b] := by simpa using t36.set 2 (.slice Aa R.m.length ca)
            clear n31 o32 p33 hB34 r35 t36
            have n43 := n37.past (grown_set (((wc.setCell ⟨w.heap.size + 2, 0, none⟩ (.int .i64 R.d)).setCell ⟨w.heap.size + 2, 1, none⟩ (.int .i64 R.w)).setCell ⟨w.heap.size + 2, 2, none⟩ (.slice Aa R.m.length ca)) (w.heap.size + 2) 3 (.bool R.b)) (by omega)
            have o44 := o38.past4 t42 (grown_set (((wc.setCell ⟨w.heap.size + 2, 0, none⟩ (.int .i64 R.d)).setCell ⟨w.heap.size + 2, 1, none⟩ (.int .i64 R.w)).setCell ⟨w.heap.size + 2, 2, none⟩ (.slice Aa R.m.length ca)) (w.heap.size + 2) 3 (.bool R.b))
            have p45 := p39.past4 t42 (grown_set (((wc.setCell ⟨w.heap.size + 2, 0, none⟩ (.int .i64 R.d)).setCell ⟨w.heap.size + 2, 1, none⟩ (.int .i64 R.w)).setCell ⟨w.heap.size + 2, 2, none⟩ (.slice Aa R.m.length ca)) (w.heap.size + 2) 3 (.bool R.b))
            have hB46 := below_put hB40 (grown_set (((wc.setCell ⟨w.heap.size + 2, 0, none⟩ (.int .i64 R.d)).setCell ⟨w.heap.size + 2, 1, none⟩ (.int .i64 R.w)).setCell ⟨w.heap.size + 2, 2, none⟩ (.slice Aa R.m.length ca)) (w.heap.size + 2) 3 (.bool R.b)) (by omega) (by have := hB40.size; omega)
            have r47 := r41.past (grown_set (((wc.setCell ⟨w.heap.size + 2, 0, none⟩ (.int .i64 R.d)).setCell ⟨w.heap.size + 2, 1, none⟩ (.int .i64 R.w)).setCell ⟨w.heap.size + 2, 2, none⟩ (.slice Aa R.m.length ca)) (w.heap.size + 2) 3 (.bool R.b)) (by omega)
            have t48 : At ((((wc.setCell ⟨w.heap.size + 2, 0, none⟩ (.int .i64 R.d)).setCell ⟨w.heap.size + 2, 1, none⟩ (.int .i64 R.w)).setCell ⟨w.heap.size + 2, 2, none⟩ (.slice Aa R.m.length ca)).setCell ⟨w.heap.size + 2, 3, none⟩ (.bool R.b)) (w.heap.size + 2) 25 #[.int .i64 R.d, .int .i64 R.w, .slice Aa R.m.length ca, .bool R.b] := by simpa using t42.set 3 (.bool R.b)
            clear n37 o38 p39 hB40 r41 t42
            go_wp2_with fail
            with_reducible refine (toInt_any _ _).mono ?_
            rintro e w' ⟨rfl, rfl⟩
            go_wp2
            go_roundw
            case rel => exact ⟨k + 1, Aa, ca, R, N, by omega, by go_num, by first | rfl | go_num, hid E1.out.symm, hid (E2.out.symm), t48, p45, hB46, r47⟩
            case measure => simp [intOf]; omega
      · skip
        have hi : ¬ (k : Int) < (l.length : Int) := by omega
        rw [take_whole hlt] at HS HNN
        have ES := hid (show runS l = S by rw [runS_yes HL.out, HS.out])
        have EV := hid (show runV l = N by rw [runV_yes HL.out, HNN.out])
        obtain ⟨y0, y1, y2, y3, yl, yf⟩ := (⟨t9.cell 0, t9.cell 1, t9.cell 2, t9.cell 3, t9.lt, t9.frozen⟩ : _ ∧ _ ∧ _ ∧ _ ∧ _ ∧ _)
        obtain ⟨q0, q1, q2, q3, ql, qf⟩ := (⟨r12.cell 0, r12.cell 1, r12.cell 2, r12.cell 3, r12.lt, r12.frozen⟩ : _ ∧ _ ∧ _ ∧ _ ∧ _ ∧ _)
        have ne_yq : ¬ w.heap.size + 2 = w.heap.size := by omega
        have ne_qy : ¬ w.heap.size = w.heap.size + 2 := by omega
        have t49 := t9.past (grown_set wr (w.heap.size) 0 (.int .i64 S.d)) (by omega)
        have o50 := o10.past4 r12 (grown_set wr (w.heap.size) 0 (.int .i64 S.d))
        have hB51 := below_put hB11 (grown_set wr (w.heap.size) 0 (.int .i64 S.d)) (by omega) (by have := hB11.size; omega)
        have r52 : At (wr.setCell ⟨w.heap.size, 0, none⟩ (.int .i64 S.d)) (w.heap.size) 25 #[.int .i64 S.d, .int .i64 0, .slice none 0 0, .bool false] := by simpa using r12.set 0 (.int .i64 S.d)
        clear t9 o10 hB11 r12
        have t53 := t49.past (grown_set (wr.setCell ⟨w.heap.size, 0, none⟩ (.int .i64 S.d)) (w.heap.size) 1 (.int .i64 S.w)) (by omega)
        have o54 := o50.past4 r52 (grown_set (wr.setCell ⟨w.heap.size, 0, none⟩ (.int .i64 S.d)) (w.heap.size) 1 (.int .i64 S.w))
        have hB55 := below_put hB51 (grown_set (wr.setCell ⟨w.heap.size, 0, none⟩ (.int .i64 S.d)) (w.heap.size) 1 (.int .i64 S.w)) (by omega) (by have := hB51.size; omega)
        have r56 : At ((wr.setCell ⟨w.heap.size, 0, none⟩ (.int .i64 S.d)).setCell ⟨w.heap.size, 1, none⟩ (.int .i64 S.w)) (w.heap.size) 25 #[.int .i64 S.d, .int .i64 S.w, .slice none 0 0, .bool false] := by simpa using r52.set 1 (.int .i64 S.w)
        clear t49 o50 hB51 r52
        have t57 := t53.past (grown_set ((wr.setCell ⟨w.heap.size, 0, none⟩ (.int .i64 S.d)).setCell ⟨w.heap.size, 1, none⟩ (.int .i64 S.w)) (w.heap.size) 2 (.slice B S.m.length d)) (by omega)
        have o58 := o54.past4 r56 (grown_set ((wr.setCell ⟨w.heap.size, 0, none⟩ (.int .i64 S.d)).setCell ⟨w.heap.size, 1, none⟩ (.int .i64 S.w)) (w.heap.size) 2 (.slice B S.m.length d))
        have hB59 := below_put hB55 (grown_set ((wr.setCell ⟨w.heap.size, 0, none⟩ (.int .i64 S.d)).setCell ⟨w.heap.size, 1, none⟩ (.int .i64 S.w)) (w.heap.size) 2 (.slice B S.m.length d)) (by omega) (by have := hB55.size; omega)
        have r60 : At (((wr.setCell ⟨w.heap.size, 0, none⟩ (.int .i64 S.d)).setCell ⟨w.heap.size, 1, none⟩ (.int .i64 S.w)).setCell ⟨w.heap.size, 2, none⟩ (.slice B S.m.length d)) (w.heap.size) 25 #[.int .i64 S.d, .int .i64 S.w, .slice B S.m.length d, .bool false] := by simpa using r56.set 2 (.slice B S.m.length d)
        clear t53 o54 hB55 r56
        have t61 := t57.past (grown_set (((wr.setCell ⟨w.heap.size, 0, none⟩ (.int .i64 S.d)).setCell ⟨w.heap.size, 1, none⟩ (.int .i64 S.w)).setCell ⟨w.heap.size, 2, none⟩ (.slice B S.m.length d)) (w.heap.size) 3 (.bool S.b)) (by omega)
        have o62 := o58.past4 r60 (grown_set (((wr.setCell ⟨w.heap.size, 0, none⟩ (.int .i64 S.d)).setCell ⟨w.heap.size, 1, none⟩ (.int .i64 S.w)).setCell ⟨w.heap.size, 2, none⟩ (.slice B S.m.length d)) (w.heap.size) 3 (.bool S.b))
        have hB63 := below_put hB59 (grown_set (((wr.setCell ⟨w.heap.size, 0, none⟩ (.int .i64 S.d)).setCell ⟨w.heap.size, 1, none⟩ (.int .i64 S.w)).setCell ⟨w.heap.size, 2, none⟩ (.slice B S.m.length d)) (w.heap.size) 3 (.bool S.b)) (by omega) (by have := hB59.size; omega)
        have r64 : At ((((wr.setCell ⟨w.heap.size, 0, none⟩ (.int .i64 S.d)).setCell ⟨w.heap.size, 1, none⟩ (.int .i64 S.w)).setCell ⟨w.heap.size, 2, none⟩ (.slice B S.m.length d)).setCell ⟨w.heap.size, 3, none⟩ (.bool S.b)) (w.heap.size) 25 #[.int .i64 S.d, .int .i64 S.w, .slice B S.m.length d, .bool S.b] := by simpa using r60.set 3 (.bool S.b)
        clear t57 o58 hB59 r60
        go_wp2
        refine bodyPost_ret (v := .tuple #[.agg #[.int .i64 S.d, .int .i64 S.w, .slice B S.m.length d, .bool S.b], .int .i64 N]) (by simp [results, Try.results19, go_sem, r64.cell]) rfl ?_
        exact ⟨B, d, by rw [ES.out, EV.out], by rw [ES.out]; exact o62.mono (by omega), hB63⟩
  · skip
    have hl17 : (l.length : Int) > 16 := by omega
    have hl18 : (16 : Int) < (l.length : Int) := by omega
    have ES := hid (runS_no hl)
    have EV := hid (runV_no hl)
    have hB65 := Below.refl w.heap.size w
    have hB66 := hB65.alloc hB65.size (.cells #[.int .i64 0, .int .i64 0, .slice none 0 0, .bool false] 25)
    clear hB65
    have r67 : At (w.alloc (.cells #[.int .i64 0, .int .i64 0, .slice none 0 0, .bool false] 25)) (w.heap.size) 25 #[.int .i64 0, .int .i64 0, .slice none 0 0, .bool false] := At.newAt _ _ (by first | rfl | (simp; done) | (simp; omega))
    have hB68 := hB66.alloc hB66.size (.cells #[] 3)
    have r69 := r67.alloc (.cells #[] 3)
    clear hB66 r67
    have hB70 := hB68.alloc hB68.size (.cells #[.int .i64 0, .int .i64 0, .slice (some ⟨w.heap.size + 1, 0, none⟩) 0 0, .bool false] 25)
    have r71 := r69.alloc (.cells #[.int .i64 0, .int .i64 0, .slice (some ⟨w.heap.size + 1, 0, none⟩) 0 0, .bool false] 25)
    clear hB68 r69
    have t72 : At (((w.alloc (.cells #[.int .i64 0, .int .i64 0, .slice none 0 0, .bool false] 25)).alloc (.cells #[] 3)).alloc (.cells #[.int .i64 0, .int .i64 0, .slice (some ⟨w.heap.size + 1, 0, none⟩) 0 0, .bool false] 25)) (w.heap.size + 2) 25 #[.int .i64 0, .int .i64 0, .slice (some ⟨w.heap.size + 1, 0, none⟩) 0 0, .bool false] := At.newAt _ _ (by first | rfl | (simp; done) | (simp; omega))
    go_enter Try.func19, Try.ntmps19
    obtain ⟨q0, q1, q2, q3, ql, qf⟩ := (⟨r71.cell 0, r71.cell 1, r71.cell 2, r71.cell 3, r71.lt, r71.frozen⟩ : _ ∧ _ ∧ _ ∧ _ ∧ _ ∧ _)
    obtain ⟨y0, y1, y2, y3, yl, yf⟩ := (⟨t72.cell 0, t72.cell 1, t72.cell 2, t72.cell 3, t72.lt, t72.frozen⟩ : _ ∧ _ ∧ _ ∧ _ ∧ _ ∧ _)
    have ne_qy : ¬ w.heap.size = w.heap.size + 2 := by omega
    have ne_yq : ¬ w.heap.size + 2 = w.heap.size := by omega
    go_wp2
    refine bodyPost_ret (v := .tuple #[.agg #[.int .i64 0, .int .i64 0, .slice none 0 0, .bool false], .int .i64 (-1)]) (by simp [results, Try.results19, go_sem, r71.cell]) rfl ?_
    exact ⟨none, 0, by rw [ES.out, EV.out]; rfl, by rw [ES.out]; exact OwnM.zero _ _, hB70⟩

end Go.Proofs.Ytocaddibdiikpaa
