/-
  What the model's parseHolds answers. Condition: the text is at most 2^22 bytes long.
-/
import Derived.Test.YtehdbllpiokbnaaTxtQ
import Derived.Deep.RegionHeldLaw
namespace Go.Proofs.Ytehdbllpiokbnaa
open Go.RowKit Txt Pol Stt

def hnB (l : List Ho) : Bool := decide (∀ x ∈ l, 0 ≤ x.c ∧ 0 ≤ x.o)
theorem hnB_iff {l : List Ho} : hnB l = true ↔ ∀ x ∈ l, 0 ≤ x.c ∧ 0 ≤ x.o := by unfold hnB; simp
def hlT (S : List UInt8) : List Ho := if hnB (holL S) = true then holL S else []
theorem hlT_yes {S : List UInt8} (h : hnB (holL S) = true) : hlT S = holL S := if_pos h
theorem hlT_no {S : List UInt8} (h : hnB (holL S) = false) : hlT S = [] := by unfold hlT; rw [h]; rfl
theorem cell_kept {w w' : World} {o : Obj} {v : Value} {kp : Nat} (hg : (w.alloc o).grownBy w' v.ownBlock) (hk : kp < w.heap.size) (hn : ∀ q, v.ownBlock = some q → q ≠ kp) (op : Nat) : w'.cell? ⟨kp, op, none⟩ = w.cell? ⟨kp, op, none⟩ :=
  (World.cell?_of_block (hg.block kp (by rw [World.size_alloc]; omega) (fun e => hn kp e.symm rfl))).trans (World.cell?_alloc_lt w o ⟨kp, op, none⟩ hk)
theorem step_append_at {P : Program} (w : World) {ops : Array Oper} {o : Oper} {a : Act} {K : Act → World → Prop} {Q : Exit → Act → World → Prop} {E : Prop} (hgd : o.guard = none) (s x : Operand) (t : TypeId)
    (ho : o.op = .call { callee := .builtin .append, args := #[s, x], argTypes := #[t, t] })
    (base : Nat) (e : TypeId) (i : TypeInfo) (z : Value) (size bytes : Nat) (ht : P.underlying t = some (.slice e)) (hi : P.info? e = some i) (hz : i.zero = some z)
    (hsize : i.size = size) (hby : i.bytes = bytes) (hzs : z.cells.size = size) (hsz : 0 < size)
    (v : Value) (n : Nat) (xs : List Value) (hs : a.eval s = v) (hown : w.ownsRow base e size v n xs)
    (ad : Addr) (m c : Nat) (news : List Value) (hx : a.eval x = .slice (some ad) m c) (hl : news.length = m * size) (hnews : ∀ j u, news[j]? = some u → w.cell? (ad.add j) = some u) (h1 : ∀ u ∈ news, u.oneCell' = true)
    (h63 : n + m ≤ maxLen) (hbytes : (n + m) * bytes ≤ 140737488355328) (hbase : base ≤ w.heap.size)
    (h : ∀ v' w', w'.ownsRow base e size v' (n + m) (xs ++ news) → w.grownBy w' v.ownBlock → (v'.ownBlock = v.ownBlock ∨ v'.ownBlock = some w.heap.size) → K (a.put o.dst v') w') :
    if Region.wanted o (yielded ops a.tmps) = true then Oper.wp P o a w K Q else E := by
  have hw : Region.wanted o (yielded ops a.tmps) = true := by simp [Region.wanted, hgd]
  rw [if_pos hw]
  obtain ⟨v', w', hr, h2, h3, _, h5⟩ := run_append_own_at (P := P) w base t o.type e i z size bytes ht hi hz hsize hby hzs hsz v n xs hown ad m c news hl hnews h1 h63 hbytes hbase
  unfold Oper.wp execOp
  simp only [ho, resolve, invoke, builtin, Sem.run_bind, Sem.run_pure, Result.andThen_ok, List.map_toArray, List.map_cons, List.map_nil, hs, hx, hr]
  exact h v' w' h2 h3 h5
set_option maxHeartbeats 8000000 in
set_option maxRecDepth 16384 in
theorem sparseHolds_any (S : List UInt8) (w : World) (hS : S.length ≤ 4194303) :
    Calls Try.prog 45 #[tx S] w fun e w' => ∃ v, e = .returned (.tuple #[v, .bool (hnB (holL S))]) ∧ OwnS 91 2 hcells w' w.heap.size v (hlT S) ∧ Below w.heap.size w w' := by
  obtain ⟨i0, hi0, hz0, hz1, hz2⟩ := info_parts holdInfo
  have hm0 : OwnS 91 2 hcells (w.alloc (.cells #[] 91)) w.heap.size (.slice (some ⟨w.heap.size, 0, none⟩) 0 0) [] := OwnS.made w (Nat.le_refl _)
  have hbm := (Below.refl w.heap.size w).alloc (Nat.le_refl _) (.cells #[] 91)
  by_cases h0 : S = []
  · subst h0
    have E1 : Hid (hnB (holL []) = true) := hid rfl
    have E2 : Hid (hlT [] = []) := hid rfl
    unfold tx
    go_enter Try.func45, Try.ntmps45
    go_wp2
    go_ret2
    refine ⟨_, by rw [E1.out]; rfl, ?_, hbm⟩
    rw [E2.out]; exact hm0
  have hS0 : (S == []) = false := by simpa using h0
  have HNL := hid (holL_of h0)
  have HWL := hid (fun t ht => Nat.le_trans (spl_lens (c := 44) (s := S) (t := t) ht) (show S.length ≤ 4194304 by omega))
  have HWN := hid (Nat.le_trans (spl_up 44 S) (show S.length + 1 ≤ 4194304 by omega))
  have hS4 : S.length ≤ 4194304 := by omega
  have cs := fun w => splitAt_any S 44 44 w rfl hS4
  unfold tx at cs
  have CS := hid cs
  clear cs h0 hS
  unfold tx
  go_enter Try.func45, Try.ntmps45
  go_wp2_with fail
  with_reducible refine (CS.out _).mono ?_
  rintro e w1 ⟨v, rfl, ho, hb1⟩
  obtain ⟨W, hW⟩ : ∃ W, W = spl 44 S := ⟨_, rfl⟩
  rw [← hW] at ho HWL HWN HNL
  clear hW CS
  obtain ⟨A, c1, rfl, _, _, _⟩ := OwnS.form ho
  have hm1 := hm0.below hb1
  have hbw := hbm.trans (hb1.mono hbm.size)
  have hsf : SeesF w1 (OutF w.heap.size w1.heap.size) A (strip tcell W) := SeesF.of_row ho.out (fun b h1 h2 e => by rw [World.size_alloc] at h1; rcases e with e | e <;> omega)
  have hzw := hbw.size
  clear hm0 hbm hb1 ho
  go_wp2
  go_loopw [4, 6] (fun v i wr => ∃ k : Nat, k ≤ W.length ∧ i = .int .i64 k ∧ OwnS 91 2 hcells wr w.heap.size v ((W.take k).map holOf) ∧ (∀ q, v.ownBlock = some q → OutF w.heap.size w1.heap.size q) ∧ Hid (∀ x ∈ (W.take k).map holOf, 0 ≤ x.c ∧ 0 ≤ x.o) ∧ SeesF wr (OutF w.heap.size w1.heap.size) A (strip tcell W) ∧ Below w.heap.size w wr ∧ w1.heap.size ≤ wr.heap.size) (fun _ i _ => W.length - (intOf i).toNat)
  case atStart => exact ⟨0, Nat.zero_le _, rfl, hm1, fun q hq => .inl (by injection hq with hq; exact hq.symm), hid (by simp), hsf, hbw, Nat.le_refl _⟩
  case round =>
    clear hm1 hsf hbw
    obtain ⟨k, hk, rfl, ho, hvF, HNN, hsf, hb, hM⟩ := hrel
    have hwn := HWN.out
    by_cases hlt : k < W.length
    · have hi : (k : Int) < (W.length : Int) := by omega
      have hk0 : (0 : Int) ≤ (k : Int) := by omega
      obtain ⟨bk, o, rfl, hbl, e0⟩ := hsf.wordF hlt
      have hxl := HWL.out _ (List.getElem_mem hlt)
      have HT := hid (show (W.take (k + 1)).map holOf = (W.take k).map holOf ++ [holOf W[k]] by rw [List.take_succ_eq_append_getElem hlt, List.map_append]; rfl)
      have HBAD := hid (fun (h : ¬ (0 ≤ (holOf W[k]).c ∧ 0 ≤ (holOf W[k]).o)) => (Bool.eq_false_iff.2 fun e => h (hnB_iff.1 e (holOf W[k]) (by rw [HNL.out]; exact List.mem_map_of_mem (List.getElem_mem hlt))) : hnB (holL S) = false))
      have hkl : ((W.take k).map holOf).length ≤ k := by rw [List.length_map, List.length_take]; omega
      have HKL : Hid (((W.take k).map holOf).length = k) := hid (by rw [List.length_map, List.length_take]; omega)
      obtain ⟨x, hx⟩ : ∃ x, x = W[k] := ⟨_, rfl⟩
      rw [← hx] at e0 hxl HT HBAD
      clear hx
      obtain ⟨R, hR⟩ : ∃ R, R = (W.take k).map holOf := ⟨_, rfl⟩
      rw [← hR] at HT ho hkl HKL
      rw [← hR] at HNN
      clear hR
      have c0 := fun w => splitAt_any x 58 58 w rfl hxl
      unfold tx at c0
      have C0 := hid c0
      clear c0
      have hz := hb.size
      go_wp2_with fail
      with_reducible refine (C0.out _).mono ?_
      rintro e w2 ⟨v2, rfl, hp, hb2⟩
      have hB2 := hb.trans (hb2.mono hz)
      have ho2 := ho.below hb2
      have hsf2 := hsf.below hb2
      have hM2 : w1.heap.size ≤ w2.heap.size := Nat.le_trans hM hb2.size
      have hlo := fun q hq => (ho.out.lt q hq).2
      have hzr := hb2.size
      clear C0 e0 ho hsf hb hb2
      by_cases h2 : (spl 58 x).length = 2
      rotate_left
      · have E0 := hid (HBAD.out (by unfold holOf; rw [pair_no h2]; decide))
        have E1 := hid E0.out
        have E2 := hid (hlT_no E0.out)
        obtain ⟨A2, c2, rfl, _, _, _⟩ := OwnS.form hp
        have hlb : (((spl 58 x).length : Int) != 2) = true := by simp only [bne_iff_ne, ne_eq]; omega
        clear hp E0
        go_wp2
        go_ret2
        refine ⟨_, by rw [E1.out]; rfl, ?_, hB2⟩
        rw [E2.out]; exact OwnS.none_ _ _
      obtain ⟨a, b, e⟩ := two_of h2
      have HO := hid (pair_of e)
      have la : a.length ≤ 4194304 := Nat.le_trans (spl_lens (c := 58) (s := x) (by rw [e]; simp)) hxl
      have lb : b.length ≤ 4194304 := Nat.le_trans (spl_lens (c := 58) (s := x) (by rw [e]; simp)) hxl
      rw [e] at hp
      clear e h2
      obtain ⟨A2, c2, rfl, _, _, _⟩ := OwnS.form hp
      rw [show ([a, b] : List (List UInt8)).length = 2 from rfl] at hp ⊢
      obtain ⟨kp, op, rfl, hkp, p0⟩ := hp.sees.word (k := 0) (by simp)
      obtain ⟨_, _, e9, _, p1⟩ := hp.sees.word (k := 1) (by simp)
      injection e9 with e9
      injection e9 with e8 e9
      subst e8 e9
      have hkr := (hp.lt kp rfl).1
      rw [Nat.add_zero, show ([a, b] : List (List UInt8))[0] = a from rfl] at p0
      rw [show ([a, b] : List (List UInt8))[1] = b from rfl] at p1
      have c1 := fun w => parseInt_any a w la
      have c2 := fun w => parseInt_any b w lb
      unfold tx at c1 c2
      have C1 := hid c1
      have C2 := hid c2
      obtain ⟨n1, hn1⟩ : ∃ n, n = num a := ⟨_, rfl⟩
      obtain ⟨n2, hn2⟩ : ∃ n, n = num b := ⟨_, rfl⟩
      have H1 := hid hn1.symm
      have H2 := hid hn2.symm
      have HX := hid (show hcells (holOf x) = [.int .i64 n1, .int .i64 n2] by unfold holOf; rw [HO.out, hn1, hn2]; rfl)
      have HG := hid (show (holOf x).c = n1 ∧ (holOf x).o = n2 by unfold holOf; rw [HO.out, hn1, hn2]; exact ⟨rfl, rfl⟩)
      clear c1 c2 hn1 hn2 hp
      go_wp2_with fail
      with_reducible refine (C1.out _).mono ?_
      rintro e w3 ⟨he, hb3⟩
      rw [H1.out] at he
      subst he
      replace p0 := ((below_cell hb3).1 kp op hkp).trans p0
      replace p1 := ((below_cell hb3).1 kp (op + 1) hkp).trans p1
      replace hkp := Nat.lt_of_lt_of_le hkp hb3.size
      replace hB2 := hB2.trans (hb3.mono hB2.size)
      replace ho2 := ho2.below hb3
      replace hsf2 := hsf2.below hb3
      replace hM2 := Nat.le_trans hM2 hb3.size
      replace hzr := Nat.le_trans hzr hb3.size
      clear hb3
      by_cases g1 : n1 < 0
      · have E1 := hid (HBAD.out (by rw [HG.out.1, HG.out.2]; omega))
        have E2 := hid (hlT_no E1.out)
        clear p0 p1
        go_wp2
        go_ret2
        refine ⟨_, by rw [E1.out]; rfl, ?_, hB2⟩
        rw [E2.out]; exact OwnS.none_ _ _
      go_wp2_with fail
      with_reducible refine (C2.out _).mono ?_
      rintro e w4 ⟨he, hb4⟩
      rw [H2.out] at he
      subst he
      replace p0 := ((below_cell hb4).1 kp op hkp).trans p0
      replace p1 := ((below_cell hb4).1 kp (op + 1) hkp).trans p1
      replace hkp := Nat.lt_of_lt_of_le hkp hb4.size
      replace hB2 := hB2.trans (hb4.mono hB2.size)
      replace ho2 := ho2.below hb4
      replace hsf2 := hsf2.below hb4
      replace hM2 := Nat.le_trans hM2 hb4.size
      replace hzr := Nat.le_trans hzr hb4.size
      clear hb4
      by_cases g2 : n2 < 0
      · have E1 := hid (HBAD.out (by rw [HG.out.1, HG.out.2]; omega))
        have E2 := hid (hlT_no E1.out)
        clear p0 p1
        go_wp2
        go_ret2
        refine ⟨_, by rw [E1.out]; rfl, ?_, hB2⟩
        rw [E2.out]; exact OwnS.none_ _ _
      have HNN2 := hid (show ∀ y ∈ (W.take (k + 1)).map holOf, 0 ≤ y.c ∧ 0 ≤ y.o by
        rw [HT.out]; intro y hy
        rw [List.mem_append, List.mem_singleton] at hy
        rcases hy with hy | rfl
        · exact HNN.out y hy
        · rw [HG.out.1, HG.out.2]; omega)
      obtain ⟨y, hy⟩ : ∃ y, y = holOf x := ⟨_, rfl⟩
      rw [← hy] at HT HX
      clear hy HBAD HO
      have hown : World.ownsRow w4.drew w.heap.size 91 2 _ R.length (strip hcells R) := (ho2.drew).out
      rw [HKL.out] at hown
      have hlw := fun q hq => (hown.lt q hq).1
      have hzz := hB2.size
      have hnk : ∀ q, u4.ownBlock = some q → q ≠ kp := fun q hq e => by have := hlo q hq; omega
      have hBd := hB2.drew
      have hsd := hsf2.drew
      clear ho2
      go_wp2_with fail
      go_region_held_law (fun w' => w'.cell? ⟨kp, op, none⟩ = some (.string (ByteArray.mk a.toArray)) ∧ w'.cell? ⟨kp, op + 1, none⟩ = some (.string (ByteArray.mk b.toArray)))
        (first | with_reducible exact ⟨p0, p1⟩ | with_reducible exact ⟨q0, q1⟩ | with_reducible exact ⟨r0, r1⟩ | with_reducible exact ⟨s0, s1⟩ | go_keep)
        (first
          | (go_at_call 46; (with_reducible refine (C1.out w4.drew).mono ?_); rintro e wa ⟨he, hba⟩; rw [H1.out] at he; subst he; have q0 := ((below_cell hba).1 kp op hkp).trans p0; have q1 := ((below_cell hba).1 kp (op + 1) hkp).trans p1; have hkq := Nat.lt_of_lt_of_le hkp hba.size)
          | (go_at_call 46; (with_reducible refine (C2.out wa).mono ?_); rintro e wb ⟨he, hbb⟩; rw [H2.out] at he; subst he; have r0 := ((below_cell hbb).1 kp op hkq).trans q0; have r1 := ((below_cell hbb).1 kp (op + 1) hkq).trans q1; have hkr2 := Nat.lt_of_lt_of_le hkq hbb.size; have hBb := (hBd.trans (hba.mono hBd.size)).trans (hbb.mono (Nat.le_trans hBd.size hba.size)); have hob := own_below (own_below hown hba) hbb; have hsb := (hsd.below hba).below hbb; have hzb := hBb.size; have hMb : w1.heap.size ≤ wb.heap.size := Nat.le_trans hM2 (Nat.le_trans hba.size hbb.size))
          | (refine step_append_at _ (by rfl) _ _ 28 (by rfl) w.heap.size 91 i0 (.agg #[.int .i64 0, .int .i64 0]) 2 16 Try.underlying28 hi0 hz0 hz1 hz2 rfl (by decide) _ k (strip hcells R) (by rfl) (own_alloc hob _) ⟨wb.heap.size, 0, none⟩ 1 1 [.int .i64 n1, .int .i64 n2] (by rfl) (by rfl) (by exact cells_new wb _ _) (by simp [Value.oneCell']) (by unfold maxLen; omega) (by omega) (by first | omega | (simp; omega)) ?_; intro v4 w4 h4 hg4 hat; have s0 := (cell_kept hg4 (o := .cells #[.int .i64 n1, .int .i64 n2] 91) hkr2 hnk op).trans r0; have s1 := (cell_kept hg4 (o := .cells #[.int .i64 n1, .int .i64 n2] 91) hkr2 hnk (op + 1)).trans r1)
          | fail)
      all_goals
        have ho5 : OwnS 91 2 hcells w4 w.heap.size v4 ((W.take (k + 1)).map holOf) := by
          rw [HT.out]
          unfold OwnS
          rw [List.length_append, List.length_singleton, strip_snoc, HX.out, HKL.out]
          exact h4
        have hb4 : Below w.heap.size (wb.alloc (.cells #[.int .i64 n1, .int .i64 n2] 91)) w4 := (Below.refl _ _).grown hg4 (by simp; omega) hlw
        have hb5 := (hBb.alloc hzb (.cells #[.int .i64 n1, .int .i64 n2] 91)).trans hb4
        have hsf5 := (hsb.alloc (.cells #[.int .i64 n1, .int .i64 n2] 91)).grown hg4 hvF
        have hvF5 := outF_of hvF (show w1.heap.size ≤ (wb.alloc (.cells #[.int .i64 n1, .int .i64 n2] 91)).heap.size by rw [World.size_alloc]; omega) hat
        have hM5 : w1.heap.size ≤ w4.heap.size := Nat.le_trans hMb (Nat.le_trans (by first | omega | (rw [World.size_alloc]; omega)) hg4.size)
        clear h4 hg4 hb4 hBb hBd hB2 hown hob hlw hat hsb hsd hsf2 p0 p1 q0 q1 r0 r1 s0 s1 hba hbb
        go_wp2
        go_roundw
        case rel => exact ⟨k + 1, by omega, by go_num, ho5, hvF5, HNN2, hsf5, hb5, hM5⟩
        case measure => simp [intOf]; omega
    · have hi : ¬ (k : Int) < (W.length : Int) := by omega
      have hnn := HNN.out
      rw [List.take_of_length_le (by omega), ← HNL.out] at ho hnn
      have E1 := hid (hnB_iff.2 hnn)
      have E2 := hid (hlT_yes E1.out)
      clear hnn
      go_wp2
      go_ret2
      refine ⟨_, by rw [E1.out]; rfl, ?_, hb⟩
      rw [E2.out]; exact ho

end Go.Proofs.Ytehdbllpiokbnaa
