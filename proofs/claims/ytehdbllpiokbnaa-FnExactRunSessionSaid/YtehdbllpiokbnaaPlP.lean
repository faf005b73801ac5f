/-
  What the model's copyPool answers. Condition: the lists lie in memory.
-/
import Derived.Test.YtehdbllpiokbnaaPlN
import Derived.Test.YtehdbllpiokbnaaPlG

namespace Go.Proofs.Ytehdbllpiokbnaa
open Go.RowKit Pol

theorem step_append_own_at {P : Program} (w : World) {ops : Array Oper} {o : Oper} {a : Act} {K : Act → World → Prop} {Q : Exit → Act → World → Prop} {E : Prop} (hgd : o.guard = none) (s x : Operand) (t : TypeId)
    (ho : o.op = .call { callee := .builtin .append, args := #[s, x], argTypes := #[t, t] })
    (base : Nat) (e : TypeId) (i : TypeInfo) (z : Value) (size bytes : Nat) (ht : P.underlying t = some (.slice e)) (hi : P.info? e = some i) (hz : i.zero = some z)
    (hsize : i.size = size) (hby : i.bytes = bytes) (hzs : z.cells.size = size) (hsz : 0 < size)
    (v : Value) (n : Nat) (xs : List Value) (hs : a.eval s = v) (hown : w.ownsRow base e size v n xs)
    (ad : Addr) (m c : Nat) (news : List Value) (hx : a.eval x = .slice (some ad) m c) (hl : news.length = m * size) (hnews : ∀ j u, news[j]? = some u → w.cell? (ad.add j) = some u) (h1 : ∀ u ∈ news, u.oneCell' = true)
    (h63 : n + m ≤ maxLen) (hbytes : (n + m) * bytes ≤ 140737488355328) (hbase : base ≤ w.heap.size)
    (h : ∀ v' w', w'.ownsRow base e size v' (n + m) (xs ++ news) → w.grownBy w' v.ownBlock → (v'.ownBlock = v.ownBlock ∨ v'.ownBlock = some w.heap.size) → K (a.put o.dst v') w') :
    if Region.wanted o (yielded ops a.tmps) = true then Oper.wp P o a w K Q else E := by
  have hw : Region.wanted o (yielded ops a.tmps) = true := by simp [Region.wanted, hgd]
  rw [if_pos hw]
  obtain ⟨v', w', hr, h2, h3, _, h5⟩ := run_append_own_at (P := P) w base t o.type e i z size bytes ht hi hz hsize hby hzs hsz v n xs hown ad m c news hl hnews h1 h63 hbytes hbase
  unfold Oper.wp execOp
  simp only [ho, resolve, invoke, builtin, Sem.run_bind, Sem.run_pure, Result.andThen_ok, List.map_toArray, List.map_cons, List.map_nil, hs, hx, hr]
  exact h v' w' h2 h3 h5
/-- What is known of the two blocks of copyPool, and of what lies below. -/
def CpF (w wr : World) (cs : Array Value) : Prop := At wr w.heap.size 30 cs ∧ At wr (w.heap.size + 1) 30 #[.int .i64 0, .slice none 0 0, .slice none 0 0, .slice none 0 0] ∧ Below w.heap.size w wr
theorem CpF.below {w wr w' : World} {cs : Array Value} (h : CpF w wr cs) (hb : Below wr.heap.size wr w') : CpF w w' cs := ⟨h.1.below hb h.1.lt, h.2.1.below hb h.2.1.lt, h.2.2.trans (hb.mono h.2.2.size)⟩
theorem CpF.alloc {w wr : World} {cs : Array Value} (h : CpF w wr cs) (o : Obj) : CpF w (wr.alloc o) cs := h.below ((Below.refl _ _).alloc (Nat.le_refl _) o)
theorem CpF.row {w wr w' : World} {cs : Array Value} (h : CpF w wr cs) {v : Value} (hg : wr.grownBy w' v.ownBlock) (hv : ∀ k, v.ownBlock = some k → w.heap.size + 2 ≤ k) : CpF w w' cs :=
  ⟨h.1.grown hg (fun e => by have := hv _ e.symm; omega), h.2.1.grown hg (fun e => by have := hv _ e.symm; omega), h.2.2.grown hg h.2.2.size (fun k hk => by have := hv k hk; omega)⟩
theorem CpF.cells {w wr : World} {u0 u1 u2 u3 : Value} (h : CpF w wr #[u0, u1, u2, u3]) : wr.cell? ⟨w.heap.size, 0, none⟩ = some u0 ∧ wr.cell? ⟨w.heap.size, 1, none⟩ = some u1 ∧ wr.cell? ⟨w.heap.size, 2, none⟩ = some u2 ∧ wr.cell? ⟨w.heap.size, 3, none⟩ = some u3 :=
  ⟨h.1.cell 0, h.1.cell 1, h.1.cell 2, h.1.cell 3⟩
theorem CpF.size {w wr : World} {cs : Array Value} (h : CpF w wr cs) : w.heap.size + 2 ≤ wr.heap.size := h.2.1.lt
theorem own1 {g : Nat} {n c : Nat} : ∀ k, (Value.slice (some ⟨g, 0, none⟩) n c).ownBlock = some k → k = g := fun k hk => by
  have : some g = some k := hk
  injection this with this; exact this.symm

theorem ownp_nil {w : World} {base : Nat} {A1 A2 A3 : Option Addr} {c1 c3 : Nat} {p : Pl} (hn : p.held = []) (h1 : Own w base (.slice A1 p.idle.length c1) p.idle) (h2 : w.ownsRow base 91 2 (.slice A2 0 0) 0 []) (h3 : Own w base (.slice A3 p.wait.length c3) p.wait)
    (f12 : Far (.slice A1 p.idle.length c1) (.slice A2 0 0)) (f13 : Far (.slice A1 p.idle.length c1) (.slice A3 p.wait.length c3)) (f23 : Far (.slice A2 0 0) (.slice A3 p.wait.length c3)) : OwnP w base A1 A2 A3 c1 0 c3 p := by
  have hl : p.held.length = 0 := by rw [hn]; rfl
  refine ⟨h1, ?_, h3, by rw [hl]; exact f12, f13, by rw [hl]; exact f23⟩
  unfold OwnS
  rw [hl, hn]
  exact h2
theorem far_lem {v v' v0 : Value} {n m : Nat} (h1 : ∀ k, v.ownBlock = some k → k < n) (h2 : ∀ k, v.ownBlock = some k → v0.ownBlock ≠ some k) (hat : v'.ownBlock = v0.ownBlock ∨ v'.ownBlock = some m) (hm : n ≤ m) : Far v v' := fun k hk e => by
  rcases hat with q | q
  · exact h2 k hk (by rw [← q, e])
  · rw [e] at q
    injection q with q
    have := h1 k hk
    omega
set_option maxRecDepth 16384 in
set_option maxHeartbeats 8000000 in
theorem scopyPool_ad (p : Pl) (A1 A3 : Option Addr) (ad : Addr) (c1 c2 c3 : Nat) (w : World) (h : SeesP w w.heap.size A1 (some ad) A3 p) (h1 : p.idle.length ≤ 4194304) (h2 : p.held.length ≤ 4194304) (h3 : p.wait.length ≤ 4194304) :
    Calls Try.prog 89 #[.agg #[.int .i64 p.mx, .slice A1 p.idle.length c1, .slice (some ad) p.held.length c2, .slice A3 p.wait.length c3]] w (CopyAns p w) := by
  obtain ⟨ih0, hih0, hzh0, hzh1, hzh2⟩ := info_parts holdInfo
  have H1 := hid h1
  have H2 := hid h2
  have H3 := hid h3
  clear h1 h2 h3
  have F : CpF w ((w.alloc (.cells #[.int .i64 p.mx, .slice A1 p.idle.length c1, .slice (some ad) p.held.length c2, .slice A3 p.wait.length c3] 30)).alloc (.cells #[.int .i64 0, .slice none 0 0, .slice none 0 0, .slice none 0 0] 30)) #[.int .i64 p.mx, .slice A1 p.idle.length c1, .slice (some ad) p.held.length c2, .slice A3 p.wait.length c3] := ⟨(At.new w 30 #[.int .i64 p.mx, .slice A1 p.idle.length c1, .slice (some ad) p.held.length c2, .slice A3 p.wait.length c3]).alloc (.cells #[.int .i64 0, .slice none 0 0, .slice none 0 0, .slice none 0 0] 30), At.newAt _ _ (by simp), ((Below.refl w.heap.size w).alloc (Nat.le_refl _) (.cells #[.int .i64 p.mx, .slice A1 p.idle.length c1, .slice (some ad) p.held.length c2, .slice A3 p.wait.length c3] 30)).alloc (by simp) (.cells #[.int .i64 0, .slice none 0 0, .slice none 0 0, .slice none 0 0] 30)⟩
  have Fd : CpF w ((w.alloc (.cells #[.int .i64 p.mx, .slice A1 p.idle.length c1, .slice (some ad) p.held.length c2, .slice A3 p.wait.length c3] 30)).alloc (.cells #[.int .i64 0, .slice none 0 0, .slice none 0 0, .slice none 0 0] 30)).drew #[.int .i64 p.mx, .slice A1 p.idle.length c1, .slice (some ad) p.held.length c2, .slice A3 p.wait.length c3] := ⟨F.1.drew, F.2.1.drew, F.2.2.drew⟩
  have hSd := h.on Fd.2.2
  obtain ⟨p0, p1, p2, p3⟩ := F.cells
  go_enter Try.func89, Try.ntmps89
  go_wp2
  have FdE : CpF w (((w.alloc (.cells #[.int .i64 p.mx, .slice A1 p.idle.length c1, .slice (some ad) p.held.length c2, .slice A3 p.wait.length c3] 30)).alloc (.cells #[.int .i64 0, .slice none 0 0, .slice none 0 0, .slice none 0 0] 30)).alloc (.cells #[] 91)).drew #[.int .i64 p.mx, .slice A1 p.idle.length c1, .slice (some ad) p.held.length c2, .slice A3 p.wait.length c3] := ⟨(F.alloc (.cells #[] 91)).1.drew, (F.alloc (.cells #[] 91)).2.1.drew, (F.alloc (.cells #[] 91)).2.2.drew⟩
  have hSdE := h.on FdE.2.2
  go_region_held3 (fun w' => w'.cell? ⟨w.heap.size, 0, none⟩ = some (.int .i64 p.mx) ∧ w'.cell? ⟨w.heap.size, 1, none⟩ = some (.slice A1 p.idle.length c1) ∧ w'.cell? ⟨w.heap.size, 2, none⟩ = some (.slice (some ad) p.held.length c2) ∧ w'.cell? ⟨w.heap.size, 3, none⟩ = some (.slice A3 p.wait.length c3))
    (first | with_reducible exact ⟨p0, p1, p2, p3⟩ | with_reducible exact ⟨a0, a1, a2, a3⟩ | with_reducible exact ⟨d0, d1, d2, d3⟩ | with_reducible exact ⟨b0, b1, b2, b3⟩ | go_keep)
    (first
      | (go_at_call 97; (with_reducible refine (copyInts_any A1 c1 p.idle _ hSdE.idle H1.out).mono ?_); rintro e wa ⟨va, rfl, hoa, hba⟩; obtain ⟨Aa, ca, rfl, _⟩ := hoa.form; have Fa := FdE.below hba; have hSa := h.on Fa.2.2; obtain ⟨a0, a1, a2, a3⟩ := Fa.cells; have hza := hba.size; try simp only [World.size_alloc, World.size_drew] at hza; have hE : World.ownsRow wa (w.heap.size + 2) 91 2 (.slice (some ⟨w.heap.size + 2, 0, none⟩) 0 0) 0 [] := own_below (own_below (made_at 91 2 (w := ((w.alloc (.cells #[.int .i64 p.mx, .slice A1 p.idle.length c1, .slice (some ad) p.held.length c2, .slice A3 p.wait.length c3] 30)).alloc (.cells #[.int .i64 0, .slice none 0 0, .slice none 0 0, .slice none 0 0] 30))) (g := w.heap.size + 2) (by simp) (Nat.le_refl _)) ((Below.refl _ _).drew)) hba; have hna : ∀ k, (Value.slice Aa p.idle.length ca).ownBlock = some k → w.heap.size + 3 ≤ k := fun k hk => by have := (hoa.out.lt k hk).1; simp only [World.size_alloc, World.size_drew] at this; omega)
      | (go_at_call 97; (with_reducible refine (copyInts_any A1 c1 p.idle _ hSd.idle H1.out).mono ?_); rintro e wa ⟨va, rfl, hoa, hba⟩; obtain ⟨Aa, ca, rfl, _⟩ := hoa.form; have Fa := Fd.below hba; have hSa := h.on Fa.2.2; obtain ⟨a0, a1, a2, a3⟩ := Fa.cells; have hza := hba.size; try simp only [World.size_alloc, World.size_drew] at hza; skip)
      | (refine step_append_own_at _ (by rfl) _ _ 28 (by rfl) (w.heap.size + 2) 91 ih0 (.agg #[.int .i64 0, .int .i64 0]) 2 16 Try.underlying28 hih0 hzh0 hzh1 hzh2 rfl (by decide) (.slice (some ⟨w.heap.size + 2, 0, none⟩) 0 0) 0 [] (by rfl) hE ad p.held.length c2 (strip hcells p.held) (by rfl) (strip_len hcells_len _) hSa.held.add (hcells_one _) (by have := H2.out; unfold maxLen; omega) (by have := H2.out; omega) Fa.size ?_; intro vh wh hh hgh hat; obtain ⟨Ah, ch, rfl, _⟩ := own_form hh; have Fh := Fa.row hgh (fun k hk => by have := own1 k hk; subst this; first | omega | (have := Fa.size; omega)); have hSh := h.on Fh.2.2; obtain ⟨d0, d1, d2, d3⟩ := Fh.cells; have hoah : Own wh (w.heap.size + 2) (.slice Aa p.idle.length ca) p.idle := row_kept (own_mono hoa.out (by simp; try omega)) hgh (fun k hk e => by have := own1 k e; have := hna k hk; omega); have hfar : Far (.slice Aa p.idle.length ca) (.slice Ah (0 + p.held.length) ch) := far_lem (fun k hk => (hoa.out.lt k hk).2) (fun k hk e => by have := own1 k e; have := hna k hk; omega) hat (Nat.le_refl _))
      | (have FaE := Fa.alloc (.cells #[] 91); refine step_append_own_at _ (by rfl) _ _ 28 (by rfl) (w.heap.size + 2) 91 ih0 (.agg #[.int .i64 0, .int .i64 0]) 2 16 Try.underlying28 hih0 hzh0 hzh1 hzh2 rfl (by decide) (.slice (some ⟨wa.heap.size, 0, none⟩) 0 0) 0 [] (by rfl) (made_at 91 2 rfl Fa.size) ad p.held.length c2 (strip hcells p.held) (by rfl) (strip_len hcells_len _) (h.on FaE.2.2).held.add (hcells_one _) (by have := H2.out; unfold maxLen; omega) (by have := H2.out; omega) FaE.size ?_; intro vh wh hh hgh hat; obtain ⟨Ah, ch, rfl, _⟩ := own_form hh; have Fh := FaE.row hgh (fun k hk => by have := own1 k hk; subst this; first | omega | (have := Fa.size; omega)); have hSh := h.on Fh.2.2; obtain ⟨d0, d1, d2, d3⟩ := Fh.cells; have hoah : Own wh (w.heap.size + 2) (.slice Aa p.idle.length ca) p.idle := row_kept (own_mono (own_alloc hoa.out (.cells #[] 91)) (by simp; try omega)) hgh (fun k hk e => by have := own1 k e; have := (hoa.out.lt k hk).2; omega); have hfar : Far (.slice Aa p.idle.length ca) (.slice Ah (0 + p.held.length) ch) := far_lem (fun k hk => (hoa.out.lt k hk).2) (fun k hk e => by have := own1 k e; have := (hoa.out.lt k hk).2; omega) hat (by simp))
      | (go_at_call 97; (with_reducible refine (copyInts_any A3 c3 p.wait _ hSh.wait H3.out).mono ?_); rintro e wb ⟨vb, rfl, hob, hbb⟩; obtain ⟨Ab, cb, rfl, _⟩ := hob.form; have Fb := Fh.below hbb; obtain ⟨b0, b1, b2, b3⟩ := Fb.cells; have prc := Fb.2.1.cell; have prf := Fb.2.1.frozen)
      | fail)
  all_goals
    have hoh : OwnS 91 2 hcells wh (w.heap.size + 2) (.slice Ah p.held.length ch) p.held := by simpa [OwnS] using hh
    have hf : Far (.slice Aa p.idle.length ca) (.slice Ah p.held.length ch) := by simpa using hfar
    have hO : OwnP wb (w.heap.size + 2) Aa Ah Ab ca ch cb p :=
      ⟨own_below hoah.out hbb, hoh.below hbb, own_mono hob.out Fh.size, hf, far_of (fun q hq => hoah.out.lt q hq) (fun q hq => hob.out.lt q hq) (.inl (Nat.le_refl _)), far_of (fun q hq => hoh.out.lt q hq) (fun q hq => hob.out.lt q hq) (.inl (Nat.le_refl _))⟩
    obtain ⟨hp2, hg2⟩ := pool_put (.int .i64 p.mx) (.slice Aa p.idle.length ca) (.slice Ah p.held.length ch) (.slice Ab p.wait.length cb) Fb.2.1 rfl
    have hO2 := (hO.past Fb.2.1 hg2).mono (show w.heap.size ≤ w.heap.size + 2 by omega)
    have hB2 := below_put Fb.2.2 hg2 (by omega) Fb.2.2.size
    go_wp2
    refine bodyPost_ret (v := .agg #[.int .i64 p.mx, .slice Aa p.idle.length ca, .slice Ah p.held.length ch, .slice Ab p.wait.length cb]) (by simp [results, Try.results89, go_sem, hp2.cell]) rfl ⟨_, _, _, _, _, _, rfl, hO2, hB2⟩

set_option maxRecDepth 16384 in
set_option maxHeartbeats 8000000 in
theorem scopyPool_none (p : Pl) (A1 A3 : Option Addr) (c1 c2 c3 : Nat) (w : World) (h : SeesP w w.heap.size A1 none A3 p) (h1 : p.idle.length ≤ 4194304) (h2 : p.held.length ≤ 4194304) (h3 : p.wait.length ≤ 4194304) :
    Calls Try.prog 89 #[.agg #[.int .i64 p.mx, .slice A1 p.idle.length c1, .slice none p.held.length c2, .slice A3 p.wait.length c3]] w (CopyAns p w) := by
  obtain ⟨ih0, hih0, hzh0, hzh1, hzh2⟩ := info_parts holdInfo
  have H1 := hid h1
  have H2 := hid h2
  have H3 := hid h3
  clear h1 h2 h3
  have hnil : p.held = [] := by
    have := h.held.none_nil
    cases hh : p.held with
    | nil => rfl
    | cons y l => rw [hh] at this; simp [strip, hcells] at this
  have HNil := hid hnil
  clear hnil
  have F : CpF w ((w.alloc (.cells #[.int .i64 p.mx, .slice A1 p.idle.length c1, .slice none p.held.length c2, .slice A3 p.wait.length c3] 30)).alloc (.cells #[.int .i64 0, .slice none 0 0, .slice none 0 0, .slice none 0 0] 30)) #[.int .i64 p.mx, .slice A1 p.idle.length c1, .slice none p.held.length c2, .slice A3 p.wait.length c3] := ⟨(At.new w 30 #[.int .i64 p.mx, .slice A1 p.idle.length c1, .slice none p.held.length c2, .slice A3 p.wait.length c3]).alloc (.cells #[.int .i64 0, .slice none 0 0, .slice none 0 0, .slice none 0 0] 30), At.newAt _ _ (by simp), ((Below.refl w.heap.size w).alloc (Nat.le_refl _) (.cells #[.int .i64 p.mx, .slice A1 p.idle.length c1, .slice none p.held.length c2, .slice A3 p.wait.length c3] 30)).alloc (by simp) (.cells #[.int .i64 0, .slice none 0 0, .slice none 0 0, .slice none 0 0] 30)⟩
  have Fd : CpF w ((w.alloc (.cells #[.int .i64 p.mx, .slice A1 p.idle.length c1, .slice none p.held.length c2, .slice A3 p.wait.length c3] 30)).alloc (.cells #[.int .i64 0, .slice none 0 0, .slice none 0 0, .slice none 0 0] 30)).drew #[.int .i64 p.mx, .slice A1 p.idle.length c1, .slice none p.held.length c2, .slice A3 p.wait.length c3] := ⟨F.1.drew, F.2.1.drew, F.2.2.drew⟩
  have hSd := h.on Fd.2.2
  obtain ⟨p0, p1, p2, p3⟩ := F.cells
  go_enter Try.func89, Try.ntmps89
  go_wp2
  have FdE : CpF w (((w.alloc (.cells #[.int .i64 p.mx, .slice A1 p.idle.length c1, .slice none p.held.length c2, .slice A3 p.wait.length c3] 30)).alloc (.cells #[.int .i64 0, .slice none 0 0, .slice none 0 0, .slice none 0 0] 30)).alloc (.cells #[] 91)).drew #[.int .i64 p.mx, .slice A1 p.idle.length c1, .slice none p.held.length c2, .slice A3 p.wait.length c3] := ⟨(F.alloc (.cells #[] 91)).1.drew, (F.alloc (.cells #[] 91)).2.1.drew, (F.alloc (.cells #[] 91)).2.2.drew⟩
  have hSdE := h.on FdE.2.2
  go_region_held3 (fun w' => w'.cell? ⟨w.heap.size, 0, none⟩ = some (.int .i64 p.mx) ∧ w'.cell? ⟨w.heap.size, 1, none⟩ = some (.slice A1 p.idle.length c1) ∧ w'.cell? ⟨w.heap.size, 2, none⟩ = some (.slice none p.held.length c2) ∧ w'.cell? ⟨w.heap.size, 3, none⟩ = some (.slice A3 p.wait.length c3))
    (first | with_reducible exact ⟨p0, p1, p2, p3⟩ | with_reducible exact ⟨a0, a1, a2, a3⟩ | with_reducible exact ⟨b0, b1, b2, b3⟩ | go_keep)
    (first
      | (go_at_call 97; (with_reducible refine (copyInts_any A1 c1 p.idle _ hSdE.idle H1.out).mono ?_); rintro e wa ⟨va, rfl, hoa, hba⟩; obtain ⟨Aa, ca, rfl, _⟩ := hoa.form; have Fa := FdE.below hba; have hSa := h.on Fa.2.2; obtain ⟨a0, a1, a2, a3⟩ := Fa.cells; have hza := hba.size; try simp only [World.size_alloc, World.size_drew] at hza; have hE : World.ownsRow wa (w.heap.size + 2) 91 2 (.slice (some ⟨w.heap.size + 1 + 1, 0, none⟩) 0 0) 0 [] := own_below (own_below (made_at 91 2 (w := ((w.alloc (.cells #[.int .i64 p.mx, .slice A1 p.idle.length c1, .slice none p.held.length c2, .slice A3 p.wait.length c3] 30)).alloc (.cells #[.int .i64 0, .slice none 0 0, .slice none 0 0, .slice none 0 0] 30))) (g := w.heap.size + 2) (by simp) (Nat.le_refl _)) ((Below.refl _ _).drew)) hba; have hna : ∀ k, (Value.slice Aa p.idle.length ca).ownBlock = some k → w.heap.size + 3 ≤ k := fun k hk => by have := (hoa.out.lt k hk).1; simp only [World.size_alloc, World.size_drew] at this; omega)
      | (go_at_call 97; (with_reducible refine (copyInts_any A1 c1 p.idle _ hSd.idle H1.out).mono ?_); rintro e wa ⟨va, rfl, hoa, hba⟩; obtain ⟨Aa, ca, rfl, _⟩ := hoa.form; have Fa := Fd.below hba; have hSa := h.on Fa.2.2; obtain ⟨a0, a1, a2, a3⟩ := Fa.cells; have hza := hba.size; try simp only [World.size_alloc, World.size_drew] at hza; skip)
      | (have Fh := Fa; have hSh := h.on Fh.2.2; go_at_call 97; (with_reducible refine (copyInts_any A3 c3 p.wait _ hSh.wait H3.out).mono ?_); rintro e wb ⟨vb, rfl, hob, hbb⟩; obtain ⟨Ab, cb, rfl, _⟩ := hob.form; have Fb := Fh.below hbb; obtain ⟨b0, b1, b2, b3⟩ := Fb.cells; have prc := Fb.2.1.cell; have prf := Fb.2.1.frozen; have hEh := own_below hE hbb; have hoah := own_below (own_mono hoa.out (by simp; try omega) : World.ownsRow wa (w.heap.size + 2) _ _ _ _ _) hbb; have hlb := fun k hk => (hob.out.lt k hk).1; have hfe : Far (.slice Aa p.idle.length ca) (.slice (some ⟨w.heap.size + 1 + 1, 0, none⟩) 0 0) := fun k hk e => by have := own1 k e; have := hna k hk; omega)
      | (have Fh := Fa.alloc (.cells #[] 91); have hSh := h.on Fh.2.2; go_at_call 97; (with_reducible refine (copyInts_any A3 c3 p.wait _ hSh.wait H3.out).mono ?_); rintro e wb ⟨vb, rfl, hob, hbb⟩; obtain ⟨Ab, cb, rfl, _⟩ := hob.form; have Fb := Fh.below hbb; obtain ⟨b0, b1, b2, b3⟩ := Fb.cells; have prc := Fb.2.1.cell; have prf := Fb.2.1.frozen; have hEh := own_below (made_at 91 2 rfl Fa.size) hbb; have hoah := own_below (own_mono (own_alloc hoa.out (.cells #[] 91)) (by simp; try omega) : World.ownsRow _ (w.heap.size + 2) _ _ _ _ _) hbb; have hlb := fun k hk => (hob.out.lt k hk).1; have hfe : Far (.slice Aa p.idle.length ca) (.slice (some ⟨wa.heap.size, 0, none⟩) 0 0) := fun k hk e => by have := own1 k e; have := (hoa.out.lt k hk).2; omega)
      | fail)
  all_goals first
  | (have hO : OwnP wb (w.heap.size + 2) Aa (some ⟨w.heap.size + 1 + 1, 0, none⟩) Ab ca 0 cb p := ownp_nil HNil.out hoah hEh (own_mono hob.out Fh.size) hfe (far_of (fun q hq => hoa.out.lt q hq) (fun q hq => hob.out.lt q hq) (.inl (by first | exact Nat.le_refl _ | (simp; done) | (simp; omega)))) (fun k hk e => by have := own1 k hk; have := hlb k e; first | omega | (simp at this; omega))
     obtain ⟨hp2, hg2⟩ := pool_put (.int .i64 p.mx) (.slice Aa p.idle.length ca) (.slice (some ⟨w.heap.size + 1 + 1, 0, none⟩) 0 0) (.slice Ab p.wait.length cb) Fb.2.1 rfl
     have hO2 := (hO.past Fb.2.1 hg2).mono (show w.heap.size ≤ w.heap.size + 2 by omega)
     have hB2 := below_put Fb.2.2 hg2 (by omega) Fb.2.2.size
     have hl0 := hid (show p.held.length = 0 by rw [HNil.out]; rfl)
     go_wp2
     refine bodyPost_ret (v := .agg #[.int .i64 p.mx, .slice Aa p.idle.length ca, .slice (some ⟨w.heap.size + 1 + 1, 0, none⟩) 0 0, .slice Ab p.wait.length cb]) (by simp [results, Try.results89, go_sem, hp2.cell]) rfl ⟨Aa, some ⟨w.heap.size + 1 + 1, 0, none⟩, Ab, ca, 0, cb, by rw [hl0.out], hO2, hB2⟩)
  | (have hO : OwnP wb (w.heap.size + 2) Aa (some ⟨wa.heap.size, 0, none⟩) Ab ca 0 cb p := ownp_nil HNil.out hoah hEh (own_mono hob.out Fh.size) hfe (far_of (fun q hq => hoa.out.lt q hq) (fun q hq => hob.out.lt q hq) (.inl (by first | exact Nat.le_refl _ | (simp; done) | (simp; omega)))) (fun k hk e => by have := own1 k hk; have := hlb k e; first | omega | (simp at this; omega))
     obtain ⟨hp2, hg2⟩ := pool_put (.int .i64 p.mx) (.slice Aa p.idle.length ca) (.slice (some ⟨wa.heap.size, 0, none⟩) 0 0) (.slice Ab p.wait.length cb) Fb.2.1 rfl
     have hO2 := (hO.past Fb.2.1 hg2).mono (show w.heap.size ≤ w.heap.size + 2 by omega)
     have hB2 := below_put Fb.2.2 hg2 (by omega) Fb.2.2.size
     have hl0 := hid (show p.held.length = 0 by rw [HNil.out]; rfl)
     go_wp2
     refine bodyPost_ret (v := .agg #[.int .i64 p.mx, .slice Aa p.idle.length ca, .slice (some ⟨wa.heap.size, 0, none⟩) 0 0, .slice Ab p.wait.length cb]) (by simp [results, Try.results89, go_sem, hp2.cell]) rfl ⟨Aa, some ⟨wa.heap.size, 0, none⟩, Ab, ca, 0, cb, by rw [hl0.out], hO2, hB2⟩)

end Go.Proofs.Ytehdbllpiokbnaa
