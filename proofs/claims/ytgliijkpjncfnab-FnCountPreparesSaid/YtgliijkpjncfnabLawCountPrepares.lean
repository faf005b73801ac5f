/-
  The walk of the law FnCountPrepares: at every code it returns true and changes nothing that was there. Conditions: none.
-/
import Derived.Test.YtgliijkpjncfnabLawCa
import Derived.Test.YtgliijkpjncfnabLawFrame
import Derived.BigQuiet

namespace Go.Proofs.Ytgliijkpjncfnab
open Go.RowKit Cac

set_option maxHeartbeats 8000000 in
theorem walkCountPrepares (a : Option Addr) (len cap : Nat) (zs : List Int) (w : World) (hn : zs.length = len) (hc : len ≤ cap) (hcc : cap ≤ maxLen) (h : Sees w w.heap.size a (byts zs)) (hz : ∀ y ∈ zs, 0 ≤ y ∧ y ≤ 255) :
    Calls Try.prog 6 #[.slice a len cap] w fun e w' => e = .returned (.bool true) ∧ Below w.heap.size w w' := by
  have HE := hid hn
  have HC := hid hcc
  have HZ := hid hz
  clear hn hcc hz
  by_cases hbig : 1048576 < len
  · go_enter Try.func6, Try.ntmps6
    go_wp2
    go_ret
    exact ⟨rfl, Below.refl _ _⟩
  · go_enter Try.func6, Try.ntmps6
    go_wp2_with fail
    refine (drawCountPrepares_any _ _ _ _ _ h HZ.out HE.out hc (by omega) HC.out).mono ?_
    rintro e w2 ⟨B, d, C, A, e, gs, rfl, dl, sg, hgl, hge⟩
    have H18 := hid (show gs.length ≤ 4194304 from Nat.le_trans hgl (by decide))
    have HGE := hid hge
    clear hge hgl
    obtain ⟨N, hN⟩ : ∃ N, N = prepV C gs := ⟨_, rfl⟩
    have EN : Hid (prepV C gs = N) := hid hN.symm
    have HN := hid hN
    clear hN
    by_cases h0 : N < 0
    · skip
      replace dl := dl.alloc (.cells #[.int .i64 C.r, .slice B C.n.length d] 25)
      replace sg := sg.alloc (.cells #[.int .i64 C.r, .slice B C.n.length d] 25)
      have pc := At.new w2 25 #[.int .i64 C.r, .slice B C.n.length d]
      obtain ⟨pc0, pc1, pcl, pcf⟩ := pc.two
      go_wp2_with fail
      refine (iCountPrepares_any C gs B A d e _ dl.sees sg.sees dl.cap dl.n4 H18.out).mono ?_
      rintro e w3 ⟨he, hb⟩
      rw [EN.out] at he
      subst he
      clear pc0 pc1 pcl pcf
      replace dl := dl.below hb
      replace sg := sg.below hb
      replace pc := pc.below hb pc.lt
      clear hb
      obtain ⟨pc0, pc1, pcl, pcf⟩ := pc.two
      go_wp2_with fail
      refine (sCountPrepares_any C gs B A d e _ dl.sees sg.sees dl.n4 H18.out).mono ?_
      rintro e w4 ⟨he, hb⟩
      rw [EN.out] at he
      subst he
      clear pc0 pc1 pcl pcf
      replace dl := dl.below hb
      replace sg := sg.below hb
      replace pc := pc.below hb pc.lt
      clear hb
      obtain ⟨pc0, pc1, pcl, pcf⟩ := pc.two
      go_wp2_with fail
      refine (sCountPrepares_any C gs B A d e _ dl.sees sg.sees dl.n4 H18.out).mono ?_
      rintro e w5 ⟨he, hb⟩
      rw [EN.out] at he
      subst he
      clear pc0 pc1 pcl pcf
      replace dl := dl.below hb
      replace sg := sg.below hb
      replace pc := pc.below hb pc.lt
      clear hb
      obtain ⟨pc0, pc1, pcl, pcf⟩ := pc.two
      go_wp2
      go_ret
      exact ⟨by simp, dl.bel⟩
    · skip
      have HN0 := hid (show 0 ≤ N by omega)
      have hn0 : ¬ N < 0 := h0
      clear h0
      have HVV := hid (prepV_ok (c := C) (l := gs) (by rw [EN.out]; exact HN0.out))
      by_cases h0 : gs.length = 0
      · skip
        have hs6 : ((gs.length : Int) == 0) = true := by rw [h0]; rfl
        clear h0
        replace dl := dl.alloc (.cells #[.int .i64 C.r, .slice B C.n.length d] 25)
        replace sg := sg.alloc (.cells #[.int .i64 C.r, .slice B C.n.length d] 25)
        have pc := At.new w2 25 #[.int .i64 C.r, .slice B C.n.length d]
        obtain ⟨pc0, pc1, pcl, pcf⟩ := pc.two
        go_wp2_with fail
        refine (iCountPrepares_any C gs B A d e _ dl.sees sg.sees dl.cap dl.n4 H18.out).mono ?_
        rintro e w3 ⟨he, hb⟩
        rw [EN.out] at he
        subst he
        clear pc0 pc1 pcl pcf
        replace dl := dl.below hb
        replace sg := sg.below hb
        replace pc := pc.below hb pc.lt
        clear hb
        obtain ⟨pc0, pc1, pcl, pcf⟩ := pc.two
        go_wp2_with fail
        refine (sCountPrepares_any C gs B A d e _ dl.sees sg.sees dl.n4 H18.out).mono ?_
        rintro e w4 ⟨he, hb⟩
        rw [EN.out] at he
        subst he
        clear pc0 pc1 pcl pcf
        replace dl := dl.below hb
        replace sg := sg.below hb
        replace pc := pc.below hb pc.lt
        clear hb
        obtain ⟨pc0, pc1, pcl, pcf⟩ := pc.two
        go_wp2_with fail
        refine (sCountPrepares_any C gs B A d e _ dl.sees sg.sees dl.n4 H18.out).mono ?_
        rintro e w5 ⟨he, hb⟩
        rw [EN.out] at he
        subst he
        clear pc0 pc1 pcl pcf
        replace dl := dl.below hb
        replace sg := sg.below hb
        replace pc := pc.below hb pc.lt
        clear hb
        obtain ⟨pc0, pc1, pcl, pcf⟩ := pc.two
        go_wp2
        go_ret
        exact ⟨by simp, dl.bel⟩
      · skip
        have hs6 : ((gs.length : Int) == 0) = false := by simp; intro h; exact h0 (by simp [h])
        have H6 := hid h0
        clear h0
        replace dl := dl.alloc (.cells #[.int .i64 C.r, .slice B C.n.length d] 25)
        replace sg := sg.alloc (.cells #[.int .i64 C.r, .slice B C.n.length d] 25)
        have pc := At.new w2 25 #[.int .i64 C.r, .slice B C.n.length d]
        obtain ⟨pc0, pc1, pcl, pcf⟩ := pc.two
        go_wp2_with fail
        refine (iCountPrepares_any C gs B A d e _ dl.sees sg.sees dl.cap dl.n4 H18.out).mono ?_
        rintro e w3 ⟨he, hb⟩
        rw [EN.out] at he
        subst he
        clear pc0 pc1 pcl pcf
        replace dl := dl.below hb
        replace sg := sg.below hb
        replace pc := pc.below hb pc.lt
        clear hb
        obtain ⟨pc0, pc1, pcl, pcf⟩ := pc.two
        go_wp2_with fail
        refine (sCountPrepares_any C gs B A d e _ dl.sees sg.sees dl.n4 H18.out).mono ?_
        rintro e w4 ⟨he, hb⟩
        rw [EN.out] at he
        subst he
        clear pc0 pc1 pcl pcf
        replace dl := dl.below hb
        replace sg := sg.below hb
        replace pc := pc.below hb pc.lt
        clear hb
        have hpos : 0 < gs.length := by have := H6.out; omega
        obtain ⟨x, hx⟩ : ∃ x, x = gs[0] := ⟨_, rfl⟩
        have hf := prepV_first HVV.out.1 HVV.out.2 hpos
        rw [← hx, EN.out] at hf
        have hxr : 0 ≤ x ∧ x ≤ 9 := by rw [hx]; exact (namesB_iff.1 HVV.out.2).2 _ (List.getElem_mem hpos)
        have hub : useB C x = true := useB_iff.2 ⟨HVV.out.1, hxr⟩
        obtain ⟨U, hU⟩ : ∃ U, U = useC C x := ⟨_, rfl⟩
        rw [← hU] at hf
        have EU := hid (show useS C x = U by rw [hU]; exact useS_yes hub)
        have HUL := hid (show U.n.length ≤ 4194304 by rw [← EU.out]; exact Nat.le_trans (useS_len _ _) (by decide))
        obtain ⟨H, hH⟩ : ∃ H, H = mem C.n x := ⟨_, rfl⟩
        rw [← hH] at hf
        have EH := hid (show hitB C x = H by rw [hH]; exact hitB_yes hub)
        obtain ⟨K, hK⟩ : ∃ K, K = prepV U (gs.drop 1) := ⟨_, rfl⟩
        rw [← hK] at hf
        have EK := hid hK.symm
        have hkr : -1 ≤ K ∧ K ≤ 4194304 := by have := prepV_le U (gs.drop 1); have h18 := H18.out; rw [List.length_drop, ← hK] at this; omega
        have hkw : IntKind.i64.wrap (K + 1) = K + 1 := by rw [IntKind.wrap_i64]; omega
        have hnl : N ≤ (gs.length : Int) := by rw [← EN.out]; exact (prepV_le _ _).2
        have HF := hid hf
        have HL := hid (show (gs.drop 1).length = gs.length - 1 from List.length_drop)
        have HL4 := hid (show (gs.drop 1).length ≤ 4194304 by rw [List.length_drop]; have := H18.out; omega)
        clear hf hK hH hU hub hxr hkr
        obtain ⟨b, o, rfl, hbl, e0⟩ := sg.sees.int hpos
        rw [← hx, Nat.add_zero] at e0
        clear hx
        have qdl := (dl.alloc (.cells #[.int .i64 0, .slice none 0 0] 25)).drew
        have qsg := (sg.alloc (.cells #[.int .i64 0, .slice none 0 0] 25)).drew
        have qpc := (pc.alloc (.cells #[.int .i64 0, .slice none 0 0] 25)).drew
        have qe0 : (w4.alloc (.cells #[.int .i64 0, .slice none 0 0] 25)).drew.cell? ⟨b, o, none⟩ = some (.int .i64 x) := (World.cell?_alloc_lt _ _ _ hbl).trans e0
        have qbl : b < (w4.alloc (.cells #[.int .i64 0, .slice none 0 0] 25)).drew.heap.size := Nat.lt_of_lt_of_le hbl (by simp)
        obtain ⟨qpc0, qpc1, qpcl, qpcf⟩ := qpc.two
        have n1 : ¬ w2.heap.size = w4.heap.size := by have := pc.lt; omega
        have n2 : ¬ b = w4.heap.size := by omega
        have n3 : ¬ w4.heap.size = w2.heap.size := by have := pc.lt; omega
        have n4 : ¬ w4.heap.size = b := by omega
        have ddl := dl.drew
        have dsg := sg.drew
        have dpc := pc.drew
        have de0 : w4.drew.cell? ⟨b, o, none⟩ = some (.int .i64 x) := e0
        have dbl : b < w4.drew.heap.size := hbl
        obtain ⟨dpc0, dpc1, dpcl, dpcf⟩ := dpc.two
        have hi0 : (0 : Int) < (gs.length : Int) := by omega
        have qz := (At.new w4 25 #[.int .i64 0, .slice none 0 0]).drew
        obtain ⟨pc0, pc1, pcl, pcf⟩ := pc.two
        go_wp2_with fail
        go_region_held3 (fun w' => w'.cell? ⟨w2.heap.size, 0, none⟩ = some (.int .i64 C.r) ∧ w'.cell? ⟨w2.heap.size, 1, none⟩ = some (.slice B C.n.length d) ∧ w'.cell? ⟨b, o, none⟩ = some (.int .i64 x))
          (first | with_reducible exact ⟨pc0, pc1, e0⟩ | with_reducible exact ⟨dpc0, dpc1, de0⟩ | with_reducible exact ⟨qpc0, qpc1, qe0⟩ | with_reducible exact ⟨ypc0, ypc1, ye0⟩ | with_reducible exact ⟨rpc0, rpc1, re0⟩ | go_keep)
          (first
            | (go_at_call 15; refine (iUseStatement_any C x B d _ ddl.sees ddl.cap ddl.n4).mono ?_; rintro e wy ⟨A1, c1, he, ho, hb⟩; rw [EU.out, EH.out] at he; rw [EU.out] at ho; subst he; have ydl := ddl.below hb; have ysg := dsg.below hb; have ypc := dpc.below hb dpc.lt; have ye0 := (hb.cell (p := ⟨b, o, none⟩) dbl).trans de0; have ybl := Nat.lt_of_lt_of_le dbl hb.size; have yn1 : ¬ w2.heap.size = wy.heap.size := (by have := ypc.lt; omega); have yn2 : ¬ b = wy.heap.size := (by omega); have yn3 : ¬ wy.heap.size = w2.heap.size := (by have := ypc.lt; omega); have yn4 : ¬ wy.heap.size = b := (by omega); obtain ⟨ypc0, ypc1, ypcl, ypcf⟩ := ypc.two)
            | (go_at_call 15; refine (iUseStatement_any C x B d _ qdl.sees qdl.cap qdl.n4).mono ?_; rintro e wr ⟨A1, c1, he, ho, hb⟩; rw [EU.out, EH.out] at he; rw [EU.out] at ho; subst he; have rdl := qdl.below hb; have rsg := qsg.below hb; have rpc := qpc.below hb qpc.lt; have re0 := (hb.cell (p := ⟨b, o, none⟩) qbl).trans qe0; have rbl := Nat.lt_of_lt_of_le qbl hb.size; have rn1 : ¬ w2.heap.size = wr.heap.size := (by have := rpc.lt; omega); have rn2 : ¬ b = wr.heap.size := (by omega); have rn3 : ¬ wr.heap.size = w2.heap.size := (by have := rpc.lt; omega); have rn4 : ¬ wr.heap.size = b := (by omega); have rz := qz.below hb qz.lt; obtain ⟨rz0, rz1, rzl, rzf⟩ := rz.two; obtain ⟨rpc0, rpc1, rpcl, rpcf⟩ := rpc.two)
            | fail)
        · skip
          have bel := (ydl.alloc (.cells #[.int .i64 U.r, .slice A1 U.n.length c1] 25)).bel
          have sn := (ysg.alloc (.cells #[.int .i64 U.r, .slice A1 U.n.length c1] 25)).sees
          have un := (ho.alloc (.cells #[.int .i64 U.r, .slice A1 U.n.length c1] 25)).sees
          have ucap := ho.cap
          have pn := At.new wy 25 #[.int .i64 U.r, .slice A1 U.n.length c1]
          obtain ⟨wf, hwf⟩ : ∃ wf, wf = wy.alloc (.cells #[.int .i64 U.r, .slice A1 U.n.length c1] 25) := ⟨_, rfl⟩
          rw [← hwf] at bel sn un pn ⊢
          clear hwf
          clear ddl dsg dpc de0 dbl dpc0 dpc1 dpcl dpcf qdl qsg qpc qe0 qbl qpc0 qpc1 qpcl qpcf n1 n2 n3 n4 qz dl sg pc e0 hbl
          clear ydl ysg ypc ye0 ybl yn1 yn2 yn3 yn4 ypc0 ypc1 ypcl ypcf ho hb
          have hge := HGE.out
          have p1 : (1 : Int) ≤ (e : Int) := by omega
          have p3 : (1 : Int) ≤ (gs.length : Int) := by omega
          have p4 : (gs.length : Int) ≤ (e : Int) := by omega
          clear hge
          replace pn := pn.drew
          replace un := un.drew
          replace sn := sn.drew
          replace bel := bel.drew
          by_cases hkc : e = 1
          · skip
            subst hkc
            have hs := (show Sees wf.drew wf.drew.heap.size (some ⟨b, o, none⟩) (ints (gs.drop 1)) by rw [List.eq_nil_of_length_eq_zero (show (gs.drop 1).length = 0 by rw [List.length_drop]; omega)]; exact Sees.nil)
            have dpn := pn
            have dbel := bel
            obtain ⟨pn0, pn1, pnl, pnf⟩ := pn.two
            go_wp2_with fail
            go_region_held3 (fun w' => w'.cell? ⟨wy.heap.size, 0, none⟩ = some (.int .i64 U.r) ∧ w'.cell? ⟨wy.heap.size, 1, none⟩ = some (.slice A1 U.n.length c1))
              (first | with_reducible exact ⟨pn0, pn1⟩ | with_reducible exact ⟨zpn0, zpn1⟩ | go_keep)
              (first
                | (go_at_call 23; refine (iCountPrepares_len HL.out un hs ucap HUL.out HL4.out).mono ?_; rintro e wz ⟨he, hb⟩; rw [EK.out] at he; subst he; have zbel := dbel.trans (hb.mono dbel.size); have zpn := dpn.below hb dpn.lt; obtain ⟨zpn0, zpn1, zpnl, zpnf⟩ := zpn.two)
                | fail)
            all_goals
              have hf := HF.out
              rcases H with _ | _
              · have hkn : (IntKind.i64.wrap (K + 1) == N) = true := by rw [hkw]; simp at hf ⊢; omega
                have hkn2 : (K + 1 == N) = true := by rw [← hkw]; exact hkn
                clear hf
                go_wp2
                go_ret
                exact ⟨by simp, zbel⟩
              · have hkn : (K == N) = true := by simp at hf ⊢; omega
                clear hf
                go_wp2
                go_ret
                exact ⟨by simp, zbel⟩
          · skip
            have hkc2 : ¬ 1 = e := fun h => hkc h.symm
            have hs := sees_add sn 1
            have dpn := pn
            have dbel := bel
            obtain ⟨pn0, pn1, pnl, pnf⟩ := pn.two
            go_wp2_with fail
            go_region_held3 (fun w' => w'.cell? ⟨wy.heap.size, 0, none⟩ = some (.int .i64 U.r) ∧ w'.cell? ⟨wy.heap.size, 1, none⟩ = some (.slice A1 U.n.length c1))
              (first | with_reducible exact ⟨pn0, pn1⟩ | with_reducible exact ⟨zpn0, zpn1⟩ | go_keep)
              (first
                | (go_at_call 23; refine (iCountPrepares_len HL.out un hs ucap HUL.out HL4.out).mono ?_; rintro e wz ⟨he, hb⟩; rw [EK.out] at he; subst he; have zbel := dbel.trans (hb.mono dbel.size); have zpn := dpn.below hb dpn.lt; obtain ⟨zpn0, zpn1, zpnl, zpnf⟩ := zpn.two)
                | fail)
            all_goals
              have hf := HF.out
              rcases H with _ | _
              · have hkn : (IntKind.i64.wrap (K + 1) == N) = true := by rw [hkw]; simp at hf ⊢; omega
                have hkn2 : (K + 1 == N) = true := by rw [← hkw]; exact hkn
                clear hf
                go_wp2
                go_ret
                exact ⟨by simp, zbel⟩
              · have hkn : (K == N) = true := by simp at hf ⊢; omega
                clear hf
                go_wp2
                go_ret
                exact ⟨by simp, zbel⟩
        · skip
          obtain ⟨pn, hgz⟩ := two_put (.int .i64 U.r) (.slice A1 U.n.length c1) rz rfl
          have ucap := ho.cap
          have un := (ho.past rz (by decide) hgz).sees
          have bel := below_put rdl.bel hgz ddl.bel.size rdl.bel.size
          have sn0 : Sees wr w4.heap.size (some ⟨b, o, none⟩) (ints gs) := (((sg.sees).alloc (Nat.le_refl _) (.cells #[.int .i64 0, .slice none 0 0] 25)).drew).on hb (by simp)
          have sn := ((sn0.setCell (p := ⟨w4.heap.size, 0, none⟩) (Nat.le_refl _) (.int .i64 U.r)).setCell (p := ⟨w4.heap.size, 1, none⟩) (Nat.le_refl _) (.slice A1 U.n.length c1)).more (Nat.le_of_lt pn.lt)
          clear sn0
          obtain ⟨wf, hwf⟩ : ∃ wf, wf = (wr.setCell ⟨w4.heap.size, 0, none⟩ (.int .i64 U.r)).setCell ⟨w4.heap.size, 1, none⟩ (.slice A1 U.n.length c1) := ⟨_, rfl⟩
          rw [← hwf] at bel sn un pn ⊢
          clear hwf
          clear ddl dsg dpc de0 dbl dpc0 dpc1 dpcl dpcf qdl qsg qpc qe0 qbl qpc0 qpc1 qpcl qpcf n1 n2 n3 n4 qz dl sg pc e0 hbl
          clear rdl rsg rpc re0 rbl rn1 rn2 rn3 rn4 rpc0 rpc1 rpcl rpcf ho hb rz rz0 rz1 rzl rzf hgz
          have hge := HGE.out
          have p1 : (1 : Int) ≤ (e : Int) := by omega
          have p3 : (1 : Int) ≤ (gs.length : Int) := by omega
          have p4 : (gs.length : Int) ≤ (e : Int) := by omega
          clear hge
          replace pn := pn.drew
          replace un := un.drew
          replace sn := sn.drew
          replace bel := bel.drew
          by_cases hkc : e = 1
          · skip
            subst hkc
            have hs := (show Sees wf.drew wf.drew.heap.size (some ⟨b, o, none⟩) (ints (gs.drop 1)) by rw [List.eq_nil_of_length_eq_zero (show (gs.drop 1).length = 0 by rw [List.length_drop]; omega)]; exact Sees.nil)
            have dpn := pn
            have dbel := bel
            obtain ⟨pn0, pn1, pnl, pnf⟩ := pn.two
            go_wp2_with fail
            go_region_held3 (fun w' => w'.cell? ⟨w4.heap.size, 0, none⟩ = some (.int .i64 U.r) ∧ w'.cell? ⟨w4.heap.size, 1, none⟩ = some (.slice A1 U.n.length c1))
              (first | with_reducible exact ⟨pn0, pn1⟩ | with_reducible exact ⟨zpn0, zpn1⟩ | go_keep)
              (first
                | (go_at_call 23; refine (iCountPrepares_len HL.out un hs ucap HUL.out HL4.out).mono ?_; rintro e wz ⟨he, hb⟩; rw [EK.out] at he; subst he; have zbel := dbel.trans (hb.mono dbel.size); have zpn := dpn.below hb dpn.lt; obtain ⟨zpn0, zpn1, zpnl, zpnf⟩ := zpn.two)
                | fail)
            all_goals
              have hf := HF.out
              rcases H with _ | _
              · have hkn : (IntKind.i64.wrap (K + 1) == N) = true := by rw [hkw]; simp at hf ⊢; omega
                have hkn2 : (K + 1 == N) = true := by rw [← hkw]; exact hkn
                clear hf
                go_wp2
                go_ret
                exact ⟨by simp, zbel⟩
              · have hkn : (K == N) = true := by simp at hf ⊢; omega
                clear hf
                go_wp2
                go_ret
                exact ⟨by simp, zbel⟩
          · skip
            have hkc2 : ¬ 1 = e := fun h => hkc h.symm
            have hs := sees_add sn 1
            have dpn := pn
            have dbel := bel
            obtain ⟨pn0, pn1, pnl, pnf⟩ := pn.two
            go_wp2_with fail
            go_region_held3 (fun w' => w'.cell? ⟨w4.heap.size, 0, none⟩ = some (.int .i64 U.r) ∧ w'.cell? ⟨w4.heap.size, 1, none⟩ = some (.slice A1 U.n.length c1))
              (first | with_reducible exact ⟨pn0, pn1⟩ | with_reducible exact ⟨zpn0, zpn1⟩ | go_keep)
              (first
                | (go_at_call 23; refine (iCountPrepares_len HL.out un hs ucap HUL.out HL4.out).mono ?_; rintro e wz ⟨he, hb⟩; rw [EK.out] at he; subst he; have zbel := dbel.trans (hb.mono dbel.size); have zpn := dpn.below hb dpn.lt; obtain ⟨zpn0, zpn1, zpnl, zpnf⟩ := zpn.two)
                | fail)
            all_goals
              have hf := HF.out
              rcases H with _ | _
              · have hkn : (IntKind.i64.wrap (K + 1) == N) = true := by rw [hkw]; simp at hf ⊢; omega
                have hkn2 : (K + 1 == N) = true := by rw [← hkw]; exact hkn
                clear hf
                go_wp2
                go_ret
                exact ⟨by simp, zbel⟩
              · have hkn : (K == N) = true := by simp at hf ⊢; omega
                clear hf
                go_wp2
                go_ret
                exact ⟨by simp, zbel⟩
end Go.Proofs.Ytgliijkpjncfnab
