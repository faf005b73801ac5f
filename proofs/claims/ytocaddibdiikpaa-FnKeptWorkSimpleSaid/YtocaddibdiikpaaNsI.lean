/-
  What the model's KeptWork and CleanUp answer. Condition: the lists lie in memory.
-/
import Derived.Test.YtocaddibdiikpaaNsF
import Derived.Test.YtocaddibdiikpaaNsG
namespace Go.Proofs.Ytocaddibdiikpaa
open Go.RowKit Nes

set_option maxHeartbeats 8000000 in
theorem sKeptWork_any (A : Option Addr) (c : Nat) (l : List Int) (w : World) (h : Sees w w.heap.size A (ints l)) (hn : l.length ≤ 4194304) :
    Calls Try.prog 22 #[.slice A l.length c] w (fun e w' => e = .returned (.int .i64 (keptV l)) ∧ Below w.heap.size w w') := by
  have HN := hid hn
  clear hn
  by_cases hl : l.length ≤ 16
  · skip
    have HL := hid hl
    have hl16 : (l.length : Int) ≤ 16 := by omega
    have hl17 : ¬ (l.length : Int) > 16 := by omega
    have hl18 : ¬ (16 : Int) < (l.length : Int) := by omega
    clear hl
    have hB1 := Below.refl w.heap.size w
    have hB2 := hB1.alloc hB1.size (.cells #[] 3)
    clear hB1
    have hB3 := hB2.alloc hB2.size (.cells #[.int .i64 0, .int .i64 0, .slice (some ⟨w.heap.size, 0, none⟩) 0 0, .bool false] 25)
    clear hB2
    have t4 : At ((w.alloc (.cells #[] 3)).alloc (.cells #[.int .i64 0, .int .i64 0, .slice (some ⟨w.heap.size, 0, none⟩) 0 0, .bool false] 25)) (w.heap.size + 1) 25 #[.int .i64 0, .int .i64 0, .slice (some ⟨w.heap.size, 0, none⟩) 0 0, .bool false] := At.newAt _ _ (by first | rfl | (simp; done) | (simp; omega))
    go_enter Try.func22, Try.ntmps22
    obtain ⟨y0, y1, y2, y3, yl, yf⟩ := (⟨t4.cell 0, t4.cell 1, t4.cell 2, t4.cell 3, t4.lt, t4.frozen⟩ : _ ∧ _ ∧ _ ∧ _ ∧ _ ∧ _)
    go_wp2_with fail
    go_loopw [4, 5] (fun n i wr => ∃ (k : Nat) (B : Option Addr) (d : Nat) (S : Nst) (N : Int), k ≤ l.length ∧ i = .int .i64 k ∧ n = .int .i64 N ∧ Hid (S = (acc (l.take k)).s) ∧ Hid (N = (acc (l.take k)).kept) ∧ At wr (w.heap.size + 1) 25 #[.int .i64 S.d, .int .i64 S.w, .slice B S.m.length d, .bool S.b] ∧ OwnM wr (w.heap.size) B d S ∧ Below w.heap.size w wr) (fun _ i _ => l.length - (intOf i).toNat)
    case atStart => exact ⟨0, (some ⟨w.heap.size, 0, none⟩), 0, zeroN, 0, Nat.zero_le _, rfl, rfl, hid rfl, hid rfl, t4, (show OwnM _ (w.heap.size) (some ⟨w.heap.size, 0, none⟩) 0 zeroN from Own.alloc4 (show Own (w.alloc (.cells #[] 3)) (w.heap.size) (.slice (some ⟨w.heap.size, 0, none⟩) 0 0) [] from made_at 3 1 (by first | rfl | simp) (Nat.le_refl _)) _), hB3⟩
    case round =>
      clear hB3 t4 y0 y1 y2 y3 yl yf
      obtain ⟨k, B, d, S, N, hk, rfl, rfl, HS, HNN, t0, o0, hB0⟩ := hrel
      have t5 := t0
      clear t0
      have o6 := o0
      clear o0
      have hB7 := hB0
      clear hB0
      have szr : w.heap.size + 1 < wr.heap.size := t5.lt
      have hok := hid (show Ok S by rw [HS.out]; exact acc_ok _)
      have HS4 := hid (show S.m.length ≤ 4194304 from Nat.le_trans (ok_len hok.out) (by decide))
      have HW := hid hok.out.2.1
      by_cases hlt : k < l.length
      · skip
        have hi : (k : Int) < (l.length : Int) := by omega
        obtain ⟨b, o, rfl, hbl, hc⟩ := (h.below hB7).int hlt
        have HKC := hid (fun (w1 : World) (hb1 : Below w.heap.size w w1) => Sees.cellAt (h.below hb1) hlt)
        have HNO := hid (fun e => acc_no hlt e)
        have HYES := hid (fun e => acc_yes hlt e)
        obtain ⟨hn1, hn2⟩ : 0 ≤ N ∧ N ≤ 16 := by rw [HNN.out]; have := acc_bd HL.out k; omega
        rw [← HS.out, ← HNN.out] at HNO HYES
        obtain ⟨x, hx⟩ : ∃ x, x = l[k] := ⟨_, rfl⟩
        rw [← hx] at hc HNO HYES HKC
        clear hx
        have hw1 : IntKind.i64.wrap (N + 1) = N + 1 := by rw [IntKind.wrap_i64]; omega
        obtain ⟨R, hR⟩ : ∃ R, R = stepS S x := ⟨_, rfl⟩
        have ER : Hid (stepS S x = R) := hid hR.symm
        rw [← hR] at HYES
        clear hR
        rcases hk2 : stepB S x with _ | _
        · skip
          obtain ⟨e1, e2, e3⟩ := HNO.out hk2
          have E1 := hid e1
          have E2 := hid e2
          have E3 := hid e3
          have EK := hid hk2
          clear e1 e2 e3 hk2
          have HV := hid (show nestB S = true from nestB_iff.2 hok.out)
          have yd := t5.drew
          have od := o6.drew
          have bd := hB7.drew
          have hkd := hc
          obtain ⟨y0, y1, y2, y3, yl, yf⟩ := (⟨t5.cell 0, t5.cell 1, t5.cell 2, t5.cell 3, t5.lt, t5.frozen⟩ : _ ∧ _ ∧ _ ∧ _ ∧ _ ∧ _)
          obtain ⟨K9, hK9⟩ : ∃ K9, K9 = stepB S x := ⟨_, rfl⟩
          have EK9 : Hid (stepB S x = K9) := hid hK9.symm
          have HK9 := hid (hK9.trans EK.out)
          clear hK9
          go_upto_region 8 with fail
          go_cut [6, 7] from 19 to 27 (fun v7 v8 wx => ∃ (g8 : Nat) (Aa : Option Addr) (ca : Nat), v7 = .pointer (some ⟨g8, 0, none⟩) ∧ v8 = .bool K9 ∧ At wx g8 25 #[.int .i64 R.d, .int .i64 R.w, .slice Aa R.m.length ca, .bool R.b] ∧ w.heap.size + 1 < g8 ∧ At wx (w.heap.size + 1) 25 #[.int .i64 S.d, .int .i64 S.w, .slice B S.m.length d, .bool S.b] ∧ OwnM wx (w.heap.size) B d S ∧ OwnM wx (w.heap.size) Aa ca R ∧ Below w.heap.size w wx)
          case first =>
            have hzd : w.heap.size ≤ wr.heap.size := by have := t5.lt; omega
            have nz1 : ¬ w.heap.size + 1 = wr.heap.size := by have := t5.lt; omega
            have nz2 : ¬ wr.heap.size = w.heap.size + 1 := by omega
            have nz3 : ¬ b = wr.heap.size := by have := t5.lt; omega
            have nz4 : ¬ wr.heap.size = b := by omega
            go_region_held3 (fun w' => w'.cell? ⟨w.heap.size + 1, 0, none⟩ = some (.int .i64 S.d) ∧ w'.cell? ⟨w.heap.size + 1, 1, none⟩ = some (.int .i64 S.w) ∧ w'.cell? ⟨w.heap.size + 1, 2, none⟩ = some (.slice B S.m.length d) ∧ w'.cell? ⟨w.heap.size + 1, 3, none⟩ = some (.bool S.b) ∧ w'.cell? ⟨b, o + k, none⟩ = some (.int .i64 x))
              (first | with_reducible exact ⟨y0, y1, y2, y3, hc⟩ | with_reducible exact ⟨a0, a1, a2, a3, hca⟩ | go_keep)
              (first
                | (go_at_call 35; (with_reducible refine (sstep_any S x B d _ (by first | exact od.sees | exact ((o6.alloc _).drew).sees) o6.cap HS4.out HV.out).mono ?_); rintro e wa hq9; obtain ⟨Aa, ca, he, hoa, hba⟩ := hq9; rw [ER.out, EK9.out] at he; rw [ER.out] at hoa; subst he; have pya := (by first | exact yd.below hba yd.lt | exact ((t5.alloc _).drew).below hba ((t5.alloc _).drew).lt : At wa (w.heap.size + 1) 25 #[.int .i64 S.d, .int .i64 S.w, .slice B S.m.length d, .bool S.b]); have poa := (by first | exact od.below hba | exact ((o6.alloc _).drew).below hba : OwnM wa (w.heap.size) B d S); have hoam := (by first | exact OwnM.mono hoa hzd | exact OwnM.mono hoa (Nat.le_trans hzd (Nat.le_of_lt (by simp))) : OwnM wa (w.heap.size) Aa ca R); have hbA := (by first | exact bd.trans (hba.mono bd.size) | exact ((hB7.alloc hB7.size _).drew).trans (hba.mono ((hB7.alloc hB7.size _).drew).size) : Below w.heap.size w wa); have hza := (by first | exact hba.size | exact Nat.le_trans (Nat.le_of_lt (by simp)) hba.size : wr.heap.size ≤ wa.heap.size); have hca := HKC.out wa hbA; obtain ⟨a0, a1, a2, a3, al, af⟩ := pya.four; have na1 : ¬ w.heap.size + 1 = wa.heap.size := Nat.ne_of_lt al; have na2 : ¬ wa.heap.size = w.heap.size + 1 := fun e => Nat.ne_of_lt al e.symm; (try have pza := ((At.newAt 25 #[.int .i64 0, .int .i64 0, .slice none 0 0, .bool false] rfl).drew : At ((wr.alloc (.cells #[.int .i64 0, .int .i64 0, .slice none 0 0, .bool false] 25)).drew) wr.heap.size 25 #[.int .i64 0, .int .i64 0, .slice none 0 0, .bool false]).below hba (by simp)); (try have pzc := pza.cell); (try have pzf := pza.frozen))
                | fail)
            all_goals
              go_wp2_with fail
              clear a0 a1 a2 a3 af
              go_meet
              first
                | (obtain ⟨hp8, hg8⟩ := four_put (.int .i64 R.d) (.int .i64 R.w) (.slice Aa R.m.length ca) (.bool R.b) pza rfl
                   exact ⟨_, _, _, rfl, rfl, hp8, by omega, pya.past hg8 (by omega), poa.past4 pza hg8, hoam.past4 pza hg8, below_put hbA hg8 (by omega) hbA.size⟩)
                | exact ⟨_, _, _, rfl, rfl, At.newAt _ _ rfl, al, pya.alloc _, poa.alloc _, hoam.alloc _, hbA.alloc hbA.size _⟩
          case rest =>
            obtain ⟨g8, Aa, ca, rfl, rfl, pn8, hgt, pt8, pS8, pR8, hB8⟩ := hcut
            obtain rfl : K9 = false := HK9.out
            clear yd od bd t5 o6 hB7 y0 y1 y2 y3 yl yf
            have n8 := pn8
            clear pn8
            have t9 := pt8
            clear pt8
            have o10 := pS8
            clear pS8
            have p11 := pR8
            clear pR8
            have hB12 := hB8
            clear hB8
            have hcx := HKC.out wc hB12
            skip
            obtain ⟨z0, z1, z2, z3, zl, zf⟩ := (⟨n8.cell 0, n8.cell 1, n8.cell 2, n8.cell 3, n8.lt, n8.frozen⟩ : _ ∧ _ ∧ _ ∧ _ ∧ _ ∧ _)
            obtain ⟨y0, y1, y2, y3, yl, yf⟩ := (⟨t9.cell 0, t9.cell 1, t9.cell 2, t9.cell 3, t9.lt, t9.frozen⟩ : _ ∧ _ ∧ _ ∧ _ ∧ _ ∧ _)
            have ne_zy : ¬ g8 = w.heap.size + 1 := by omega
            have ne_yz : ¬ w.heap.size + 1 = g8 := by omega
            go_wp2
            go_roundw
            case rel => exact ⟨k + 1, B, d, S, N, by omega, by go_num, by first | rfl | go_num, hid E1.out.symm, hid (E3.out.symm), t9, o10, hB12⟩
            case measure => simp [intOf]; omega
        · skip
          obtain ⟨e1, e2, e3⟩ := HYES.out hk2
          have E1 := hid e1
          have E2 := hid e2
          have E3 := hid e3
          have EK := hid hk2
          clear e1 e2 e3 hk2
          have HV := hid (show nestB S = true from nestB_iff.2 hok.out)
          have yd := t5.drew
          have od := o6.drew
          have bd := hB7.drew
          have hkd := hc
          obtain ⟨y0, y1, y2, y3, yl, yf⟩ := (⟨t5.cell 0, t5.cell 1, t5.cell 2, t5.cell 3, t5.lt, t5.frozen⟩ : _ ∧ _ ∧ _ ∧ _ ∧ _ ∧ _)
          obtain ⟨K9, hK9⟩ : ∃ K9, K9 = stepB S x := ⟨_, rfl⟩
          have EK9 : Hid (stepB S x = K9) := hid hK9.symm
          have HK9 := hid (hK9.trans EK.out)
          clear hK9
          go_upto_region 8 with fail
          go_cut [6, 7] from 19 to 27 (fun v7 v8 wx => ∃ (g8 : Nat) (Aa : Option Addr) (ca : Nat), v7 = .pointer (some ⟨g8, 0, none⟩) ∧ v8 = .bool K9 ∧ At wx g8 25 #[.int .i64 R.d, .int .i64 R.w, .slice Aa R.m.length ca, .bool R.b] ∧ w.heap.size + 1 < g8 ∧ At wx (w.heap.size + 1) 25 #[.int .i64 S.d, .int .i64 S.w, .slice B S.m.length d, .bool S.b] ∧ OwnM wx (w.heap.size) B d S ∧ OwnM wx (w.heap.size) Aa ca R ∧ Below w.heap.size w wx)
          case first =>
            have hzd : w.heap.size ≤ wr.heap.size := by have := t5.lt; omega
            have nz1 : ¬ w.heap.size + 1 = wr.heap.size := by have := t5.lt; omega
            have nz2 : ¬ wr.heap.size = w.heap.size + 1 := by omega
            have nz3 : ¬ b = wr.heap.size := by have := t5.lt; omega
            have nz4 : ¬ wr.heap.size = b := by omega
            go_region_held3 (fun w' => w'.cell? ⟨w.heap.size + 1, 0, none⟩ = some (.int .i64 S.d) ∧ w'.cell? ⟨w.heap.size + 1, 1, none⟩ = some (.int .i64 S.w) ∧ w'.cell? ⟨w.heap.size + 1, 2, none⟩ = some (.slice B S.m.length d) ∧ w'.cell? ⟨w.heap.size + 1, 3, none⟩ = some (.bool S.b) ∧ w'.cell? ⟨b, o + k, none⟩ = some (.int .i64 x))
              (first | with_reducible exact ⟨y0, y1, y2, y3, hc⟩ | with_reducible exact ⟨a0, a1, a2, a3, hca⟩ | go_keep)
              (first
                | (go_at_call 35; (with_reducible refine (sstep_any S x B d _ (by first | exact od.sees | exact ((o6.alloc _).drew).sees) o6.cap HS4.out HV.out).mono ?_); rintro e wa hq9; obtain ⟨Aa, ca, he, hoa, hba⟩ := hq9; rw [ER.out, EK9.out] at he; rw [ER.out] at hoa; subst he; have pya := (by first | exact yd.below hba yd.lt | exact ((t5.alloc _).drew).below hba ((t5.alloc _).drew).lt : At wa (w.heap.size + 1) 25 #[.int .i64 S.d, .int .i64 S.w, .slice B S.m.length d, .bool S.b]); have poa := (by first | exact od.below hba | exact ((o6.alloc _).drew).below hba : OwnM wa (w.heap.size) B d S); have hoam := (by first | exact OwnM.mono hoa hzd | exact OwnM.mono hoa (Nat.le_trans hzd (Nat.le_of_lt (by simp))) : OwnM wa (w.heap.size) Aa ca R); have hbA := (by first | exact bd.trans (hba.mono bd.size) | exact ((hB7.alloc hB7.size _).drew).trans (hba.mono ((hB7.alloc hB7.size _).drew).size) : Below w.heap.size w wa); have hza := (by first | exact hba.size | exact Nat.le_trans (Nat.le_of_lt (by simp)) hba.size : wr.heap.size ≤ wa.heap.size); have hca := HKC.out wa hbA; obtain ⟨a0, a1, a2, a3, al, af⟩ := pya.four; have na1 : ¬ w.heap.size + 1 = wa.heap.size := Nat.ne_of_lt al; have na2 : ¬ wa.heap.size = w.heap.size + 1 := fun e => Nat.ne_of_lt al e.symm; (try have pza := ((At.newAt 25 #[.int .i64 0, .int .i64 0, .slice none 0 0, .bool false] rfl).drew : At ((wr.alloc (.cells #[.int .i64 0, .int .i64 0, .slice none 0 0, .bool false] 25)).drew) wr.heap.size 25 #[.int .i64 0, .int .i64 0, .slice none 0 0, .bool false]).below hba (by simp)); (try have pzc := pza.cell); (try have pzf := pza.frozen))
                | fail)
            all_goals
              go_wp2_with fail
              clear a0 a1 a2 a3 af
              go_meet
              first
                | (obtain ⟨hp8, hg8⟩ := four_put (.int .i64 R.d) (.int .i64 R.w) (.slice Aa R.m.length ca) (.bool R.b) pza rfl
                   exact ⟨_, _, _, rfl, rfl, hp8, by omega, pya.past hg8 (by omega), poa.past4 pza hg8, hoam.past4 pza hg8, below_put hbA hg8 (by omega) hbA.size⟩)
                | exact ⟨_, _, _, rfl, rfl, At.newAt _ _ rfl, al, pya.alloc _, poa.alloc _, hoam.alloc _, hbA.alloc hbA.size _⟩
          case rest =>
            obtain ⟨g8, Aa, ca, rfl, rfl, pn8, hgt, pt8, pS8, pR8, hB8⟩ := hcut
            obtain rfl : K9 = true := HK9.out
            clear yd od bd t5 o6 hB7 y0 y1 y2 y3 yl yf
            have n13 := pn8
            clear pn8
            have t14 := pt8
            clear pt8
            have o15 := pS8
            clear pS8
            have p16 := pR8
            clear pR8
            have hB17 := hB8
            clear hB8
            have hcx := HKC.out wc hB17
            by_cases x3 : x = 3
            · skip
              have x3b : (x == 3) = true := by simp [x3]
              by_cases r0 : R.d = 0
              · skip
                have r0b : (R.d == 0) = true := by simp [r0]
                have HNX := hid (show (acc (l.take (k + 1))).kept = N + S.w by rw [E3.out, if_pos ⟨x3, r0⟩])
                have hww := HW.out
                have hw2 : IntKind.i64.wrap (N + S.w) = N + S.w := by rw [IntKind.wrap_i64]; omega
                clear x3 r0
                obtain ⟨z0, z1, z2, z3, zl, zf⟩ := (⟨n13.cell 0, n13.cell 1, n13.cell 2, n13.cell 3, n13.lt, n13.frozen⟩ : _ ∧ _ ∧ _ ∧ _ ∧ _ ∧ _)
                obtain ⟨y0, y1, y2, y3, yl, yf⟩ := (⟨t14.cell 0, t14.cell 1, t14.cell 2, t14.cell 3, t14.lt, t14.frozen⟩ : _ ∧ _ ∧ _ ∧ _ ∧ _ ∧ _)
                have ne_zy : ¬ g8 = w.heap.size + 1 := by omega
                have ne_yz : ¬ w.heap.size + 1 = g8 := by omega
                have n18 := n13.past (grown_set wc (w.heap.size + 1) 0 (.int .i64 R.d)) (by omega)
                have o19 := o15.past4 t14 (grown_set wc (w.heap.size + 1) 0 (.int .i64 R.d))
                have p20 := p16.past4 t14 (grown_set wc (w.heap.size + 1) 0 (.int .i64 R.d))
                have hB21 := below_put hB17 (grown_set wc (w.heap.size + 1) 0 (.int .i64 R.d)) (by omega) (by have := hB17.size; omega)
                have t22 : At (wc.setCell ⟨w.heap.size + 1, 0, none⟩ (.int .i64 R.d)) (w.heap.size + 1) 25 #[.int .i64 R.d, .int .i64 S.w, .slice B S.m.length d, .bool S.b] := by simpa using t14.set 0 (.int .i64 R.d)
                clear n13 o15 p16 hB17 t14
                have n23 := n18.past (grown_set (wc.setCell ⟨w.heap.size + 1, 0, none⟩ (.int .i64 R.d)) (w.heap.size + 1) 1 (.int .i64 R.w)) (by omega)
                have o24 := o19.past4 t22 (grown_set (wc.setCell ⟨w.heap.size + 1, 0, none⟩ (.int .i64 R.d)) (w.heap.size + 1) 1 (.int .i64 R.w))
                have p25 := p20.past4 t22 (grown_set (wc.setCell ⟨w.heap.size + 1, 0, none⟩ (.int .i64 R.d)) (w.heap.size + 1) 1 (.int .i64 R.w))
                have hB26 := below_put hB21 (grown_set (wc.setCell ⟨w.heap.size + 1, 0, none⟩ (.int .i64 R.d)) (w.heap.size + 1) 1 (.int .i64 R.w)) (by omega) (by have := hB21.size; omega)
                have t27 : At ((wc.setCell ⟨w.heap.size + 1, 0, none⟩ (.int .i64 R.d)).setCell ⟨w.heap.size + 1, 1, none⟩ (.int .i64 R.w)) (w.heap.size + 1) 25 #[.int .i64 R.d, .int .i64 R.w, .slice B S.m.length d, .bool S.b] := by simpa using t22.set 1 (.int .i64 R.w)
                clear n18 o19 p20 hB21 t22
                have n28 := n23.past (grown_set ((wc.setCell ⟨w.heap.size + 1, 0, none⟩ (.int .i64 R.d)).setCell ⟨w.heap.size + 1, 1, none⟩ (.int .i64 R.w)) (w.heap.size + 1) 2 (.slice Aa R.m.length ca)) (by omega)
                have o29 := o24.past4 t27 (grown_set ((wc.setCell ⟨w.heap.size + 1, 0, none⟩ (.int .i64 R.d)).setCell ⟨w.heap.size + 1, 1, none⟩ (.int .i64 R.w)) (w.heap.size + 1) 2 (.slice Aa R.m.length ca))
                have p30 := p25.past4 t27 (grown_set ((wc.setCell ⟨w.heap.size + 1, 0, none⟩ (.int .i64 R.d)).setCell ⟨w.heap.size + 1, 1, none⟩ (.int .i64 R.w)) (w.heap.size + 1) 2 (.slice Aa R.m.length ca))
                have hB31 := below_put hB26 (grown_set ((wc.setCell ⟨w.heap.size + 1, 0, none⟩ (.int .i64 R.d)).setCell ⟨w.heap.size + 1, 1, none⟩ (.int .i64 R.w)) (w.heap.size + 1) 2 (.slice Aa R.m.length ca)) (by omega) (by have := hB26.size; omega)
                have t32 : At (((wc.setCell ⟨w.heap.size + 1, 0, none⟩ (.int .i64 R.d)).setCell ⟨w.heap.size + 1, 1, none⟩ (.int .i64 R.w)).setCell ⟨w.heap.size + 1, 2, none⟩ (.slice Aa R.m.length ca)) (w.heap.size + 1) 25 #[.int .i64 R.d, .int .i64 R.w, .slice Aa R.m.length ca, .bool S.b] := by simpa using t27.set 2 (.slice Aa R.m.length ca)
                clear n23 o24 p25 hB26 t27
                have n33 := n28.past (grown_set (((wc.setCell ⟨w.heap.size + 1, 0, none⟩ (.int .i64 R.d)).setCell ⟨w.heap.size + 1, 1, none⟩ (.int .i64 R.w)).setCell ⟨w.heap.size + 1, 2, none⟩ (.slice Aa R.m.length ca)) (w.heap.size + 1) 3 (.bool R.b)) (by omega)
                have o34 := o29.past4 t32 (grown_set (((wc.setCell ⟨w.heap.size + 1, 0, none⟩ (.int .i64 R.d)).setCell ⟨w.heap.size + 1, 1, none⟩ (.int .i64 R.w)).setCell ⟨w.heap.size + 1, 2, none⟩ (.slice Aa R.m.length ca)) (w.heap.size + 1) 3 (.bool R.b))
                have p35 := p30.past4 t32 (grown_set (((wc.setCell ⟨w.heap.size + 1, 0, none⟩ (.int .i64 R.d)).setCell ⟨w.heap.size + 1, 1, none⟩ (.int .i64 R.w)).setCell ⟨w.heap.size + 1, 2, none⟩ (.slice Aa R.m.length ca)) (w.heap.size + 1) 3 (.bool R.b))
                have hB36 := below_put hB31 (grown_set (((wc.setCell ⟨w.heap.size + 1, 0, none⟩ (.int .i64 R.d)).setCell ⟨w.heap.size + 1, 1, none⟩ (.int .i64 R.w)).setCell ⟨w.heap.size + 1, 2, none⟩ (.slice Aa R.m.length ca)) (w.heap.size + 1) 3 (.bool R.b)) (by omega) (by have := hB31.size; omega)
                have t37 : At ((((wc.setCell ⟨w.heap.size + 1, 0, none⟩ (.int .i64 R.d)).setCell ⟨w.heap.size + 1, 1, none⟩ (.int .i64 R.w)).setCell ⟨w.heap.size + 1, 2, none⟩ (.slice Aa R.m.length ca)).setCell ⟨w.heap.size + 1, 3, none⟩ (.bool R.b)) (w.heap.size + 1) 25 #[.int .i64 R.d, .int .i64 R.w, .slice Aa R.m.length ca, .bool R.b] := by simpa using t32.set 3 (.bool R.b)
                clear n28 o29 p30 hB31 t32
                go_wp2
                go_roundw
                case rel => exact ⟨k + 1, Aa, ca, R, (N + S.w), by omega, by go_num, by first | rfl | go_num, hid E1.out.symm, hid (HNX.out.symm), t37, p35, hB36⟩
                case measure => simp [intOf]; omega
              · skip
                have r0b : (R.d == 0) = false := beq_eq_false_iff_ne.2 r0
                have HNX := hid (show (acc (l.take (k + 1))).kept = N by rw [E3.out, if_neg (fun e => r0 e.2)]; omega)
                clear x3 r0
                obtain ⟨z0, z1, z2, z3, zl, zf⟩ := (⟨n13.cell 0, n13.cell 1, n13.cell 2, n13.cell 3, n13.lt, n13.frozen⟩ : _ ∧ _ ∧ _ ∧ _ ∧ _ ∧ _)
                obtain ⟨y0, y1, y2, y3, yl, yf⟩ := (⟨t14.cell 0, t14.cell 1, t14.cell 2, t14.cell 3, t14.lt, t14.frozen⟩ : _ ∧ _ ∧ _ ∧ _ ∧ _ ∧ _)
                have ne_zy : ¬ g8 = w.heap.size + 1 := by omega
                have ne_yz : ¬ w.heap.size + 1 = g8 := by omega
                have n38 := n13.past (grown_set wc (w.heap.size + 1) 0 (.int .i64 R.d)) (by omega)
                have o39 := o15.past4 t14 (grown_set wc (w.heap.size + 1) 0 (.int .i64 R.d))
                have p40 := p16.past4 t14 (grown_set wc (w.heap.size + 1) 0 (.int .i64 R.d))
                have hB41 := below_put hB17 (grown_set wc (w.heap.size + 1) 0 (.int .i64 R.d)) (by omega) (by have := hB17.size; omega)
                have t42 : At (wc.setCell ⟨w.heap.size + 1, 0, none⟩ (.int .i64 R.d)) (w.heap.size + 1) 25 #[.int .i64 R.d, .int .i64 S.w, .slice B S.m.length d, .bool S.b] := by simpa using t14.set 0 (.int .i64 R.d)
                clear n13 o15 p16 hB17 t14
                have n43 := n38.past (grown_set (wc.setCell ⟨w.heap.size + 1, 0, none⟩ (.int .i64 R.d)) (w.heap.size + 1) 1 (.int .i64 R.w)) (by omega)
                have o44 := o39.past4 t42 (grown_set (wc.setCell ⟨w.heap.size + 1, 0, none⟩ (.int .i64 R.d)) (w.heap.size + 1) 1 (.int .i64 R.w))
                have p45 := p40.past4 t42 (grown_set (wc.setCell ⟨w.heap.size + 1, 0, none⟩ (.int .i64 R.d)) (w.heap.size + 1) 1 (.int .i64 R.w))
                have hB46 := below_put hB41 (grown_set (wc.setCell ⟨w.heap.size + 1, 0, none⟩ (.int .i64 R.d)) (w.heap.size + 1) 1 (.int .i64 R.w)) (by omega) (by have := hB41.size; omega)
                have t47 : At ((wc.setCell ⟨w.heap.size + 1, 0, none⟩ (.int .i64 R.d)).setCell ⟨w.heap.size + 1, 1, none⟩ (.int .i64 R.w)) (w.heap.size + 1) 25 #[.int .i64 R.d, .int .i64 R.w, .slice B S.m.length d, .bool S.b] := by simpa using t42.set 1 (.int .i64 R.w)
                clear n38 o39 p40 hB41 t42
                have n48 := n43.past (grown_set ((wc.setCell ⟨w.heap.size + 1, 0, none⟩ (.int .i64 R.d)).setCell ⟨w.heap.size + 1, 1, none⟩ (.int .i64 R.w)) (w.heap.size + 1) 2 (.slice Aa R.m.length ca)) (by omega)
                have o49 := o44.past4 t47 (grown_set ((wc.setCell ⟨w.heap.size + 1, 0, none⟩ (.int .i64 R.d)).setCell ⟨w.heap.size + 1, 1, none⟩ (.int .i64 R.w)) (w.heap.size + 1) 2 (.slice Aa R.m.length ca))
                have p50 := p45.past4 t47 (grown_set ((wc.setCell ⟨w.heap.size + 1, 0, none⟩ (.int .i64 R.d)).setCell ⟨w.heap.size + 1, 1, none⟩ (.int .i64 R.w)) (w.heap.size + 1) 2 (.slice Aa R.m.length ca))
                have hB51 := below_put hB46 (grown_set ((wc.setCell ⟨w.heap.size + 1, 0, none⟩ (.int .i64 R.d)).setCell ⟨w.heap.size + 1, 1, none⟩ (.int .i64 R.w)) (w.heap.size + 1) 2 (.slice Aa R.m.length ca)) (by omega) (by have := hB46.size; omega)
                have t52 : At (((wc.setCell ⟨w.heap.size + 1, 0, none⟩ (.int .i64 R.d)).setCell ⟨w.heap.size + 1, 1, none⟩ (.int .i64 R.w)).setCell ⟨w.heap.size + 1, 2, none⟩ (.slice Aa R.m.length ca)) (w.heap.size + 1) 25 #[.int .i64 R.d, .int .i64 R.w, .slice Aa R.m.length ca, .bool S.b] := by simpa using t47.set 2 (.slice Aa R.m.length ca)
                clear n43 o44 p45 hB46 t47
                have n53 := n48.past (grown_set (((wc.setCell ⟨w.heap.size + 1, 0, none⟩ (.int .i64 R.d)).setCell ⟨w.heap.size + 1, 1, none⟩ (.int .i64 R.w)).setCell ⟨w.heap.size + 1, 2, none⟩ (.slice Aa R.m.length ca)) (w.heap.size + 1) 3 (.bool R.b)) (by omega)
                have o54 := o49.past4 t52 (grown_set (((wc.setCell ⟨w.heap.size + 1, 0, none⟩ (.int .i64 R.d)).setCell ⟨w.heap.size + 1, 1, none⟩ (.int .i64 R.w)).setCell ⟨w.heap.size + 1, 2, none⟩ (.slice Aa R.m.length ca)) (w.heap.size + 1) 3 (.bool R.b))
                have p55 := p50.past4 t52 (grown_set (((wc.setCell ⟨w.heap.size + 1, 0, none⟩ (.int .i64 R.d)).setCell ⟨w.heap.size + 1, 1, none⟩ (.int .i64 R.w)).setCell ⟨w.heap.size + 1, 2, none⟩ (.slice Aa R.m.length ca)) (w.heap.size + 1) 3 (.bool R.b))
                have hB56 := below_put hB51 (grown_set (((wc.setCell ⟨w.heap.size + 1, 0, none⟩ (.int .i64 R.d)).setCell ⟨w.heap.size + 1, 1, none⟩ (.int .i64 R.w)).setCell ⟨w.heap.size + 1, 2, none⟩ (.slice Aa R.m.length ca)) (w.heap.size + 1) 3 (.bool R.b)) (by omega) (by have := hB51.size; omega)
                have t57 : At ((((wc.setCell ⟨w.heap.size + 1, 0, none⟩ (.int .i64 R.d)).setCell ⟨w.heap.size + 1, 1, none⟩ (.int .i64 R.w)).setCell ⟨w.heap.size + 1, 2, none⟩ (.slice Aa R.m.length ca)).setCell ⟨w.heap.size + 1, 3, none⟩ (.bool R.b)) (w.heap.size + 1) 25 #[.int .i64 R.d, .int .i64 R.w, .slice Aa R.m.length ca, .bool R.b] := by simpa using t52.set 3 (.bool R.b)
                clear n48 o49 p50 hB51 t52
                go_wp2
                go_roundw
                case rel => exact ⟨k + 1, Aa, ca, R, N, by omega, by go_num, by first | rfl | go_num, hid E1.out.symm, hid (HNX.out.symm), t57, p55, hB56⟩
                case measure => simp [intOf]; omega
            · skip
              have x3b : (x == 3) = false := beq_eq_false_iff_ne.2 x3
              have HNX := hid (show (acc (l.take (k + 1))).kept = N by rw [E3.out, if_neg (fun e => x3 e.1)]; omega)
              clear x3
              obtain ⟨z0, z1, z2, z3, zl, zf⟩ := (⟨n13.cell 0, n13.cell 1, n13.cell 2, n13.cell 3, n13.lt, n13.frozen⟩ : _ ∧ _ ∧ _ ∧ _ ∧ _ ∧ _)
              obtain ⟨y0, y1, y2, y3, yl, yf⟩ := (⟨t14.cell 0, t14.cell 1, t14.cell 2, t14.cell 3, t14.lt, t14.frozen⟩ : _ ∧ _ ∧ _ ∧ _ ∧ _ ∧ _)
              have ne_zy : ¬ g8 = w.heap.size + 1 := by omega
              have ne_yz : ¬ w.heap.size + 1 = g8 := by omega
              have n58 := n13.past (grown_set wc (w.heap.size + 1) 0 (.int .i64 R.d)) (by omega)
              have o59 := o15.past4 t14 (grown_set wc (w.heap.size + 1) 0 (.int .i64 R.d))
              have p60 := p16.past4 t14 (grown_set wc (w.heap.size + 1) 0 (.int .i64 R.d))
              have hB61 := below_put hB17 (grown_set wc (w.heap.size + 1) 0 (.int .i64 R.d)) (by omega) (by have := hB17.size; omega)
              have t62 : At (wc.setCell ⟨w.heap.size + 1, 0, none⟩ (.int .i64 R.d)) (w.heap.size + 1) 25 #[.int .i64 R.d, .int .i64 S.w, .slice B S.m.length d, .bool S.b] := by simpa using t14.set 0 (.int .i64 R.d)
              clear n13 o15 p16 hB17 t14
              have n63 := n58.past (grown_set (wc.setCell ⟨w.heap.size + 1, 0, none⟩ (.int .i64 R.d)) (w.heap.size + 1) 1 (.int .i64 R.w)) (by omega)
              have o64 := o59.past4 t62 (grown_set (wc.setCell ⟨w.heap.size + 1, 0, none⟩ (.int .i64 R.d)) (w.heap.size + 1) 1 (.int .i64 R.w))
              have p65 := p60.past4 t62 (grown_set (wc.setCell ⟨w.heap.size + 1, 0, none⟩ (.int .i64 R.d)) (w.heap.size + 1) 1 (.int .i64 R.w))
              have hB66 := below_put hB61 (grown_set (wc.setCell ⟨w.heap.size + 1, 0, none⟩ (.int .i64 R.d)) (w.heap.size + 1) 1 (.int .i64 R.w)) (by omega) (by have := hB61.size; omega)
              have t67 : At ((wc.setCell ⟨w.heap.size + 1, 0, none⟩ (.int .i64 R.d)).setCell ⟨w.heap.size + 1, 1, none⟩ (.int .i64 R.w)) (w.heap.size + 1) 25 #[.int .i64 R.d, .int .i64 R.w, .slice B S.m.length d, .bool S.b] := by simpa using t62.set 1 (.int .i64 R.w)
              clear n58 o59 p60 hB61 t62
              have n68 := n63.past (grown_set ((wc.setCell ⟨w.heap.size + 1, 0, none⟩ (.int .i64 R.d)).setCell ⟨w.heap.size + 1, 1, none⟩ (.int .i64 R.w)) (w.heap.size + 1) 2 (.slice Aa R.m.length ca)) (by omega)
              have o69 := o64.past4 t67 (grown_set ((wc.setCell ⟨w.heap.size + 1, 0, none⟩ (.int .i64 R.d)).setCell ⟨w.heap.size + 1, 1, none⟩ (.int .i64 R.w)) (w.heap.size + 1) 2 (.slice Aa R.m.length ca))
              have p70 := p65.past4 t67 (grown_set ((wc.setCell ⟨w.heap.size + 1, 0, none⟩ (.int .i64 R.d)).setCell ⟨w.heap.size + 1, 1, none⟩ (.int .i64 R.w)) (w.heap.size + 1) 2 (.slice Aa R.m.length ca))
              have hB71 := below_put hB66 (grown_set ((wc.setCell ⟨w.heap.size + 1, 0, none⟩ (.int .i64 R.d)).setCell ⟨w.heap.size + 1, 1, none⟩ (.int .i64 R.w)) (w.heap.size + 1) 2 (.slice Aa R.m.length ca)) (by omega) (by have := hB66.size; omega)
              have t72 : At (((wc.setCell ⟨w.heap.size + 1, 0, none⟩ (.int .i64 R.d)).setCell ⟨w.heap.size + 1, 1, none⟩ (.int .i64 R.w)).setCell ⟨w.heap.size + 1, 2, none⟩ (.slice Aa R.m.length ca)) (w.heap.size + 1) 25 #[.int .i64 R.d, .int .i64 R.w, .slice Aa R.m.length ca, .bool S.b] := by simpa using t67.set 2 (.slice Aa R.m.length ca)
              clear n63 o64 p65 hB66 t67
              have n73 := n68.past (grown_set (((wc.setCell ⟨w.heap.size + 1, 0, none⟩ (.int .i64 R.d)).setCell ⟨w.heap.size + 1, 1, none⟩ (.int .i64 R.w)).setCell ⟨w.heap.size + 1, 2, none⟩ (.slice Aa R.m.length ca)) (w.heap.size + 1) 3 (.bool R.b)) (by omega)
              have o74 := o69.past4 t72 (grown_set (((wc.setCell ⟨w.heap.size + 1, 0, none⟩ (.int .i64 R.d)).setCell ⟨w.heap.size + 1, 1, none⟩ (.int .i64 R.w)).setCell ⟨w.heap.size + 1, 2, none⟩ (.slice Aa R.m.length ca)) (w.heap.size + 1) 3 (.bool R.b))
              have p75 := p70.past4 t72 (grown_set (((wc.setCell ⟨w.heap.size + 1, 0, none⟩ (.int .i64 R.d)).setCell ⟨w.heap.size + 1, 1, none⟩ (.int .i64 R.w)).setCell ⟨w.heap.size + 1, 2, none⟩ (.slice Aa R.m.length ca)) (w.heap.size + 1) 3 (.bool R.b))
              have hB76 := below_put hB71 (grown_set (((wc.setCell ⟨w.heap.size + 1, 0, none⟩ (.int .i64 R.d)).setCell ⟨w.heap.size + 1, 1, none⟩ (.int .i64 R.w)).setCell ⟨w.heap.size + 1, 2, none⟩ (.slice Aa R.m.length ca)) (w.heap.size + 1) 3 (.bool R.b)) (by omega) (by have := hB71.size; omega)
              have t77 : At ((((wc.setCell ⟨w.heap.size + 1, 0, none⟩ (.int .i64 R.d)).setCell ⟨w.heap.size + 1, 1, none⟩ (.int .i64 R.w)).setCell ⟨w.heap.size + 1, 2, none⟩ (.slice Aa R.m.length ca)).setCell ⟨w.heap.size + 1, 3, none⟩ (.bool R.b)) (w.heap.size + 1) 25 #[.int .i64 R.d, .int .i64 R.w, .slice Aa R.m.length ca, .bool R.b] := by simpa using t72.set 3 (.bool R.b)
              clear n68 o69 p70 hB71 t72
              go_wp2
              go_roundw
              case rel => exact ⟨k + 1, Aa, ca, R, N, by omega, by go_num, by first | rfl | go_num, hid E1.out.symm, hid (HNX.out.symm), t77, p75, hB76⟩
              case measure => simp [intOf]; omega
      · skip
        have hi : ¬ (k : Int) < (l.length : Int) := by omega
        rw [take_whole hlt] at HS HNN
        have EV := hid (show keptV l = N by rw [keptV_yes HL.out, HNN.out])
        obtain ⟨y0, y1, y2, y3, yl, yf⟩ := (⟨t5.cell 0, t5.cell 1, t5.cell 2, t5.cell 3, t5.lt, t5.frozen⟩ : _ ∧ _ ∧ _ ∧ _ ∧ _ ∧ _)
        go_wp2
        go_ret
        exact ⟨ret_int EV.out.symm, hB7⟩
  · skip
    have hl17 : (l.length : Int) > 16 := by omega
    have hl18 : (16 : Int) < (l.length : Int) := by omega
    have EV := hid (keptV_no hl)
    have hB78 := Below.refl w.heap.size w
    have hB79 := hB78.alloc hB78.size (.cells #[] 3)
    clear hB78
    have hB80 := hB79.alloc hB79.size (.cells #[.int .i64 0, .int .i64 0, .slice (some ⟨w.heap.size, 0, none⟩) 0 0, .bool false] 25)
    clear hB79
    have t81 : At ((w.alloc (.cells #[] 3)).alloc (.cells #[.int .i64 0, .int .i64 0, .slice (some ⟨w.heap.size, 0, none⟩) 0 0, .bool false] 25)) (w.heap.size + 1) 25 #[.int .i64 0, .int .i64 0, .slice (some ⟨w.heap.size, 0, none⟩) 0 0, .bool false] := At.newAt _ _ (by first | rfl | (simp; done) | (simp; omega))
    go_enter Try.func22, Try.ntmps22
    obtain ⟨y0, y1, y2, y3, yl, yf⟩ := (⟨t81.cell 0, t81.cell 1, t81.cell 2, t81.cell 3, t81.lt, t81.frozen⟩ : _ ∧ _ ∧ _ ∧ _ ∧ _ ∧ _)
    go_wp2
    go_ret
    exact ⟨ret_int EV.out.symm, hB80⟩

set_option maxHeartbeats 8000000 in
theorem sCleanUp_any (s : Nst) (A1 : Option Addr) (c1 : Nat) (w : World) (h : SeesM w w.heap.size A1 s) (h1 : s.m.length ≤ 4194304) :
    Calls Try.prog 27 #[.agg #[.int .i64 s.d, .int .i64 s.w, .slice A1 s.m.length c1, .bool s.b]] w fun e w' => ∃ v, e = .returned v ∧ Own w' w.heap.size v (cleanL s) ∧ Below w.heap.size w w' := by
  obtain ⟨i0, hi0, hz0, hz1, hz2⟩ := info_parts intInfo
  have H1 := hid h1
  skip
  clear h1
  rcases hv : nestB s with _ | _
  · skip
    have HV := hid hv
    have E := hid (clean_no hv)
    clear hv
    have hB1 := Below.refl w.heap.size w
    have hB2 := hB1.alloc hB1.size (.cells #[.int .i64 s.d, .int .i64 s.w, .slice A1 s.m.length c1, .bool s.b] 25)
    clear hB1
    have x3 : At (w.alloc (.cells #[.int .i64 s.d, .int .i64 s.w, .slice A1 s.m.length c1, .bool s.b] 25)) (w.heap.size) 25 #[.int .i64 s.d, .int .i64 s.w, .slice A1 s.m.length c1, .bool s.b] := At.newAt _ _ (by first | rfl | (simp; done) | (simp; omega))
    have hB4 := hB2.alloc hB2.size (.cells #[] 3)
    have x5 := x3.alloc (.cells #[] 3)
    clear hB2 x3
    go_enter Try.func27, Try.ntmps27
    obtain ⟨p0, p1, p2, p3, pl, pf⟩ := (⟨x5.cell 0, x5.cell 1, x5.cell 2, x5.cell 3, x5.lt, x5.frozen⟩ : _ ∧ _ ∧ _ ∧ _ ∧ _ ∧ _)
    go_wp2_with fail
    with_reducible refine (svalidState_any s A1 c1 _ (h.on hB4) H1.out).mono ?_
    rintro e w1 ⟨he, hb1⟩
    rw [HV.out] at he
    subst he
    have sz1 : w.heap.size + 2 ≤ w1.heap.size := Nat.le_trans (by first | exact Nat.le_refl _ | (simp; done) | (simp; omega)) (hb1.size)
    have hB6 := hB4.trans (hb1.mono hB4.size)
    have x7 := x5.below hb1 x5.lt
    clear hB4 x5
    clear p0 p1 p2 p3 pl pf
    obtain ⟨p0, p1, p2, p3, pl, pf⟩ := (⟨x7.cell 0, x7.cell 1, x7.cell 2, x7.cell 3, x7.lt, x7.frozen⟩ : _ ∧ _ ∧ _ ∧ _ ∧ _ ∧ _)
    go_wp2
    go_ret
    exact ⟨_, rfl, by rw [E.out]; exact Own.none_ _ _, hB6⟩
  · skip
    have HV := hid hv
    have E := hid (clean_yes hv)
    have hd := (nestB_iff.1 hv).1
    obtain ⟨D, hD⟩ : ∃ D : Nat, s.d = D := ⟨s.d.toNat, by omega⟩
    have HD := hid hD
    have hD4 : D ≤ 4 := by omega
    have HE := hid (show cleanL s = List.replicate D 4 by rw [E.out, hD]; rfl)
    clear hv hd hD
    have hB8 := Below.refl w.heap.size w
    have hB9 := hB8.alloc hB8.size (.cells #[.int .i64 s.d, .int .i64 s.w, .slice A1 s.m.length c1, .bool s.b] 25)
    clear hB8
    have x10 : At (w.alloc (.cells #[.int .i64 s.d, .int .i64 s.w, .slice A1 s.m.length c1, .bool s.b] 25)) (w.heap.size) 25 #[.int .i64 s.d, .int .i64 s.w, .slice A1 s.m.length c1, .bool s.b] := At.newAt _ _ (by first | rfl | (simp; done) | (simp; omega))
    have hB11 := hB9.alloc hB9.size (.cells #[] 3)
    have x12 := x10.alloc (.cells #[] 3)
    clear hB9 x10
    go_enter Try.func27, Try.ntmps27
    have ho0 : Own ((w.alloc (.cells #[.int .i64 s.d, .int .i64 s.w, .slice A1 s.m.length c1, .bool s.b] 25)).alloc (.cells #[] 3)) w.heap.size (.slice (some ⟨w.heap.size + 1, 0, none⟩) 0 0) [] := made_at 3 1 (by simp) (by simp)
    have l13 := ho0
    clear ho0
    obtain ⟨p0, p1, p2, p3, pl, pf⟩ := (⟨x12.cell 0, x12.cell 1, x12.cell 2, x12.cell 3, x12.lt, x12.frozen⟩ : _ ∧ _ ∧ _ ∧ _ ∧ _ ∧ _)
    go_wp2_with fail
    with_reducible refine (svalidState_any s A1 c1 _ (h.on hB11) H1.out).mono ?_
    rintro e w1 ⟨he, hb1⟩
    rw [HV.out] at he
    subst he
    have sz1 : w.heap.size + 2 ≤ w1.heap.size := Nat.le_trans (by first | exact Nat.le_refl _ | (simp; done) | (simp; omega)) (hb1.size)
    have hB14 := hB11.trans (hb1.mono hB11.size)
    have x15 := x12.below hb1 x12.lt
    have l16 := l13.below hb1
    clear hB11 x12 l13
    clear p0 p1 p2 p3 pl pf
    have xx := x15.four
    rw [HD.out] at xx
    obtain ⟨p0, p1, p2, p3, pl, pf⟩ := xx
    go_wp2_with fail
    go_loopw [3, 4] (fun v i wr => ∃ (k : Nat) (G : Option Addr) (e : Nat), k ≤ D ∧ i = .int .i64 k ∧ v = .slice G k e ∧ At wr w.heap.size 25 #[.int .i64 s.d, .int .i64 s.w, .slice A1 s.m.length c1, .bool s.b] ∧ Own wr w.heap.size (.slice G k e) (List.replicate k 4) ∧ Below w.heap.size w wr) (fun _ i _ => D - (intOf i).toNat)
    case atStart => exact ⟨0, _, _, Nat.zero_le _, rfl, rfl, x15, l16, hB14⟩
    case round =>
      clear p0 p1 p2 p3 pl pf x15 hB14 l16
      obtain ⟨k, G, f, hk, rfl, rfl, x0, ho, hB0⟩ := hrel
      have szr : w.heap.size < wr.heap.size := x0.lt
      have xx := x0.four
      rw [HD.out] at xx
      obtain ⟨p0, p1, p2, p3, pl, pf⟩ := xx
      have hlow := ho.out.lt
      by_cases hlt : k < D
      · skip
        have hi : (k : Int) < (D : Int) := by omega
        go_wp2_with (at_builtin; refine wpList_append_own_at _ rfl _ _ 23 rfl w.heap.size 3 i0 (.int .i64 0) 1 8 Try.underlying23 hi0 hz0 hz1 hz2 rfl (by decide) _ _ _ rfl (show World.ownsRow (wr.alloc (.cells #[.int .i64 4] 3)) w.heap.size 3 1 (.slice G k f) k (ints (List.replicate k 4)) by have hq := (ho.alloc4 (.cells #[.int .i64 4] 3)).out; rw [List.length_replicate] at hq; exact hq) ⟨wr.heap.size, 0, none⟩ 1 1 [.int .i64 4] rfl rfl (cell_one_new _ _ _) ?c2 ?c3 ?c4 ?c5 ?_)
        case c2 => simp [Value.oneCell']
        case c3 => unfold maxLen; omega
        case c4 => omega
        case c5 => simp; omega
        case _ =>
          intro v6 w6 h6 hg6 _ _
          have ho6 : Own w6 w.heap.size v6 (List.replicate (k + 1) 4) := by
            unfold Own
            rw [List.length_replicate, List.replicate_succ', ints_app]; exact h6
          have x6 := (x0.alloc (.cells #[.int .i64 4] 3)).grown hg6 (fun e => row_ne ho.out x0 (by decide) e.symm)
          have hB6 := (hB0.alloc hB0.size (.cells #[.int .i64 4] 3)).grown hg6 (by simp; omega) (fun q hq => (hlow q hq).1)
          obtain ⟨A6, c6, rfl, _, _⟩ := own_form h6
          clear h6 hg6 hlow ho p0 p1 p2 p3 pl pf
          go_wp2
          go_roundw
          case rel => exact ⟨k + 1, A6, c6, by omega, by go_num, rfl, x6, ho6, hB6⟩
          case measure => simp [intOf]; omega
      · skip
        have hi : ¬ (k : Int) < (D : Int) := by omega
        have hkD : k = D := by omega
        have HO := hid (show Own wr w.heap.size (.slice G k f) (cleanL s) by rw [HE.out, ← hkD]; exact ho)
        clear hkD ho
        go_wp2
        go_ret
        exact ⟨_, rfl, HO.out, hB0⟩

end Go.Proofs.Ytocaddibdiikpaa
