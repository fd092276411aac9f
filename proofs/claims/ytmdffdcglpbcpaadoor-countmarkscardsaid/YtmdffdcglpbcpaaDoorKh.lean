/- Lots and Most, the program's. -/
import Derived.Test.YtmdffdcglpbcpaaDoorKg
import Derived.Test.YtmdffdcglpbcpaaDoorKe
set_option linter.unusedSimpArgs false
set_option linter.unusedVariables false
set_option maxRecDepth 100000
namespace Go.Proofs.YtmdffdcglpbcpaaDoor
open Go.RowKit Go.Deep Go.PlainAid Go.Sort Go.Shelf Go.Lib

theorem SAt.keep {w V : World} {a : Option Addr} {os : List ByteArray} (h : F.SAt w a os) (hV : Below w.heap.size w V) : F.SAt V a os := fun i hi => by
  obtain ⟨b, o, e, hc⟩ := h i hi
  exact ⟨b, o, e, cell_keep hc hV⟩
set_option maxHeartbeats 1000000 in
theorem lots4_bad {w : World} {lots nm : ByteArray} {a : Option Addr} {n c : Nat} {r s m : Int} (hw : wc n r s = 2) :
    Calls Tryd.prog 4 #[CV nm a n c r s m, .string lots] w fun e w' => e = .returned (.tuple #[.slice none 0 0, .int .i64 2]) ∧ Below w.heap.size w w' := by
  have H : Hid (∀ W, Calls Tryd.prog 9 #[.agg #[.string nm, .slice a n c, .int .i64 r, .int .i64 s, .int .i64 m]] W fun e w' => e = .returned (.int .i64 2) ∧ Below W.heap.size W w') := fun W => by have := wrong9 nm a n c r s m W; rw [hw] at this; exact this
  clear hw
  unfold CV
  have B : Hid (Below w.heap.size w (w.alloc (.cells #[.string nm, .slice a n c, .int .i64 r, .int .i64 s, .int .i64 m] 24))) := (Below.refl _ _).alloc (Nat.le_refl _) _
  go_enter Tryd.func4, Tryd.ntmps4
  go_wp2_with (go_at_call 9; refine (H.out _).mono ?_; rintro e w1 ⟨rfl, hB⟩; have B1 : Hid (Below w.heap.size w w1) := B.out.trans (hB.mono B.out.size); clear hB H)
  go_ret2
  exact ⟨rfl, B1.out⟩
set_option maxHeartbeats 1000000 in
theorem lots4_ok {w : World} {lots nm : ByteArray} {a : Option Addr} {n c : Nat} {r s m : Int} {os : List ByteArray} (hf : Fit lots nm os) (ho : F.SAt w a os) (hn : os.length = n) (hw : wc n r s = 0) (hT : F.Tabs w) (hS : F.Starts w) :
    Calls Tryd.prog 4 #[CV nm a n c r s m, .string lots] w fun e w' => (∃ v, e = .returned (.tuple #[v, .int .i64 0]) ∧ LS w' v (zi (rl (ltL lots nm os) n))) ∧ Below w.heap.size w w' := by
  have H : Hid (∀ W, Calls Tryd.prog 9 #[.agg #[.string nm, .slice a n c, .int .i64 r, .int .i64 s, .int .i64 m]] W fun e w' => e = .returned (.int .i64 0) ∧ Below W.heap.size W w') := fun W => by have := wrong9 nm a n c r s m W; rw [hw] at this; exact this
  obtain ⟨n12, _⟩ := wc_fits hw
  have DD : Hid (∀ W, Below w.heap.size w W → Calls Tryd.prog 10 #[.agg #[.string nm, .slice a n c, .int .i64 r, .int .i64 s, .int .i64 m], .string lots] W fun e w' => (∃ v, e = .returned v ∧ LS w' v (zi (rl (ltL lots nm os) n))) ∧ Below W.heap.size W w') := fun W hW => drawn10_ok hf (SAt.keep ho hW) hn n12 (hT.of_below hW hT.size) (hS.of_below hW hT.size)
  clear hw hf ho hn hT hS
  unfold CV
  generalize rl (ltL lots nm os) n = D at *
  have B : Hid (Below w.heap.size w (w.alloc (.cells #[.string nm, .slice a n c, .int .i64 r, .int .i64 s, .int .i64 m] 24))) := (Below.refl _ _).alloc (Nat.le_refl _) _
  have I0 : Hid (IHolds (w.alloc (.cells #[.string nm, .slice a n c, .int .i64 r, .int .i64 s, .int .i64 m] 24)) w.heap.size 24 [.string nm, .slice a n c, .int .i64 r, .int .i64 s, .int .i64 m]) := IHolds.new w 24 _
  go_enter Tryd.func4, Tryd.ntmps4
  go_wp2_with (first
    | (go_at_call 9; refine (H.out _).mono ?_; rintro e w1 ⟨rfl, hB⟩; have B1 : Hid (Below w.heap.size w w1) := B.out.trans (hB.mono B.out.size); have I1 : Hid (IHolds w1 w.heap.size 24 [.string nm, .slice a n c, .int .i64 r, .int .i64 s, .int .i64 m]) := I0.out.of_below hB; obtain ⟨k0, k1, k2, k3, k4⟩ := five I1.out; clear hB H I0)
    | (go_at_call 10; refine (DD.out _ B1.out).mono ?_; rintro e w2 ⟨⟨v, rfl, hl⟩, hB⟩; have B2 : Hid (Below w.heap.size w w2) := B1.out.trans (hB.mono B1.out.size); have L2 : Hid (LS w2 v (zi D)) := hl; clear hB hl DD)
    | fail)
  exact bodyPost_ret (v := .tuple #[v, .int .i64 0]) (by simp [results, Tryd.results4, go_sem]) rfl ⟨⟨v, rfl, L2.out⟩, B2.out⟩
theorem cmpI_lt (x y : Int) : decide (cmpI x y < 0) = decide (x < y) := by
  unfold cmpI
  split
  · rename_i h; simp [h]
  · rename_i h; split <;> simp [h]
/-- D with the greatest first, those with the same as they stood. -/
def Best (t : Nat → Int) (D R : List Nat) : Prop := R.Perm D ∧ R.Pairwise (fun x y => lx (gt t) (D.idxOf ·) x y = true)
set_option maxHeartbeats 2000000 in
theorem great24 {w : World} {g gc bt ot n ct : Nat} {D : List Nat} {tl : List Int} (hD : IL w (some ⟨g, 0, none⟩) (zi D)) (hdn : D.length = n) (hnd : D.Nodup) (hlt : ∀ x ∈ D, x < n) (hn : 1 ≤ n ∧ n ≤ 12) (hL : IL w (some ⟨bt, ot, none⟩) tl) (htl : tl.length = n) :
    Calls Tryd.prog 24 #[.slice (some ⟨g, 0, none⟩) n gc, .slice (some ⟨bt, ot, none⟩) n ct, .func (.func 25) #[] #[]] w fun e w' => (∃ v R, e = .returned v ∧ Best (fun x => tl.getD x 0) D R ∧ LS w' v (zi R)) ∧ Below w.heap.size w w' := by
  have CL : Hid (∀ V, Below w.heap.size w V → Calls Tryd.prog 30 #[.slice (some ⟨g, 0, none⟩) n gc] V fun e w' => ∃ v', e = .returned v' ∧ w'.ownsRow V.heap.size 3 1 v' n (vi (zi D)) ∧ Below V.heap.size V w') := fun V hV => by
    have q := clone30 g 0 n gc (zi D) V (by rw [zi_len]; omega) (by omega) (fun j hj => by
      obtain ⟨b, o, e, hc⟩ := hD j hj
      cases e
      have e2 : (zi D).getD j 0 = (zi D)[j] := by simp [hj]
      rw [e2]
      exact cell_keep hc hV)
    refine q.mono ?_
    rintro e w' ⟨v', rfl, h1, _, h2⟩
    rw [List.take_of_length_le (by rw [zi_len]; omega)] at h1
    exact ⟨v', rfl, h1, h2⟩
  have SO : Hid (∀ V Bf Bt v B, Below w.heap.size w V → w.heap.size ≤ B → Bf < B → Bt < B → V.cell? ⟨Bf, 0, none⟩ = some (.func (.func 25) #[] #[]) → V.cell? ⟨Bt, 0, none⟩ = some (.slice (some ⟨bt, ot, none⟩) n ct) → V.ownsRow B 3 1 v n (vi (zi D)) → Calls Tryd.prog 19 #[v, .func (.func 31) #[] #[.pointer (some ⟨Bf, 0, none⟩), .pointer (some ⟨Bt, 0, none⟩)]] V fun e w' => e = .returned (.tuple #[]) ∧ Below w.heap.size w w' ∧ ∃ R, Best (fun x => tl.getD x 0) D R ∧ LS w' v (zi R)) := fun V Bf Bt v B hV hB hf1 ht1 hF hT hv => by
    obtain ⟨_, g2, cap, rfl, hc, hm, hBg, hgl, hH, cur, hcur⟩ := row_holds hv (by omega) hlt
    have hbt : bt < w.heap.size := by
      obtain ⟨b, o, e, hc⟩ := hL 0 (by omega)
      cases e; exact cell_lt hc
    have eg : ∀ args w, (callFunc 31 args).run Tryd.prog w = .ok (.enter 31 args) w := enters_of Tryd.func31 (by kernel_rfl) rfl
    have hx : ∀ j, j < n → V.cell? ⟨bt, ot + j, none⟩ = some (.int .i64 (tl.getD j 0)) := fun j hj => by
      obtain ⟨b, o, e, hc⟩ := hL j (by omega)
      cases e
      have hj2 : j < tl.length := by omega
      have e2 : tl.getD j 0 = tl[j] := by simp [hj2]
      rw [e2]
      exact cell_keep hc hV
    have hcmp : CmpReads Tryd.prog 31 #[.pointer (some ⟨Bf, 0, none⟩), .pointer (some ⟨Bt, 0, none⟩)] (encN n) (fun x y => cmpI (tl.getD (y % n) 0) (tl.getD (x % n) 0)) g2 0 D.toArray.size V := fun m2 os2 dk hdk x y => by
      have hx1 : x % n < n := Nat.mod_lt _ (by omega)
      have hy1 : y % n < n := Nat.mod_lt _ (by omega)
      exact closure31 (sw_cell _ hF (by omega)) (sw_cell _ hT (by omega)) hx1 hy1 (sw_cell _ (hx _ hx1) (by omega)) (sw_cell _ (hx _ hy1) (by omega))
    have q := sort19 (encN n) (encN_one n) _ 31 #[.pointer (some ⟨Bf, 0, none⟩), .pointer (some ⟨Bt, 0, none⟩)] g2 cap n D.toArray V eg hcmp hH (by simpa using hdn) (by omega)
    have e1 : (ltOf fun x y => cmpI (tl.getD (y % n) 0) (tl.getD (x % n) 0)) = fun x y => gt (fun x => tl.getD x 0) (x % n) (y % n) := by
      funext x y; exact cmpI_lt _ _
    rw [e1] at q
    have sw : SWO (fun x y => gt (fun x => tl.getD x 0) (x % n) (y % n)) := ⟨fun x => (gt_swo _).irrefl _, fun x y z => (gt_swo _).trans _ _ _, fun x y z => (gt_swo _).ntrans _ _ _⟩
    obtain ⟨p1, p2⟩ := stable sw (D.idxOf ·) D (fun q hq => hnd.idxOf_getElem q hq)
    rw [hdn] at p1 p2
    refine q.mono ?_
    rintro e w' ⟨rfl, m2, rfl⟩
    refine ⟨rfl, below_put _ hV (by omega), _, ⟨p1, p2.imp_of_mem ?_⟩, put_ls hH hdn p1 hlt hc hm (by omega)⟩
    intro x y hx2 hy2 h
    have a1 := hlt x (p1.subset hx2)
    have a2 := hlt y (p1.subset hy2)
    simpa only [lx, Nat.mod_eq_of_lt a1, Nat.mod_eq_of_lt a2] using h
  clear hD hL hnd hlt hdn htl
  obtain ⟨n1, n12⟩ := hn
  have J2 : Hid (Below w.heap.size w ((w.alloc (.cells #[.slice (some ⟨bt, ot, none⟩) n ct] 25)).alloc (.cells #[.func (.func 25) #[] #[]] 42))) := ((Below.refl _ _).alloc (Nat.le_refl _) _).alloc (by simp) _
  have I1 : Hid (IHolds ((w.alloc (.cells #[.slice (some ⟨bt, ot, none⟩) n ct] 25)).alloc (.cells #[.func (.func 25) #[] #[]] 42)) w.heap.size 25 [.slice (some ⟨bt, ot, none⟩) n ct]) := (IHolds.new w 25 [.slice (some ⟨bt, ot, none⟩) n ct]).of_below ((Below.refl _ _).alloc (Nat.le_refl _) _)
  have I2 : Hid (IHolds ((w.alloc (.cells #[.slice (some ⟨bt, ot, none⟩) n ct] 25)).alloc (.cells #[.func (.func 25) #[] #[]] 42)) (w.heap.size + 1) 42 [.func (.func 25) #[] #[]]) := by
    have q := IHolds.new (w.alloc (.cells #[.slice (some ⟨bt, ot, none⟩) n ct] 25)) 42 [.func (.func 25) #[] #[]]
    simp only [World.size_alloc] at q
    exact q
  have SZ : Hid (((w.alloc (.cells #[.slice (some ⟨bt, ot, none⟩) n ct] 25)).alloc (.cells #[.func (.func 25) #[] #[]] 42)).heap.size = w.heap.size + 2) := by show _ = _; simp
  go_enter Tryd.func24, Tryd.ntmps24
  go_wp2_with fail
  generalize (w.alloc (.cells #[.slice (some ⟨bt, ot, none⟩) n ct] 25)).alloc (.cells #[.func (.func 25) #[] #[]] 42) = U at *
  go_wp2_with (first
    | (go_at_call 30; refine (CL.out _ J2.out).mono ?_; rintro e w1 ⟨v1, rfl, ho, hB⟩; have B1 : Hid (Below w.heap.size w w1) := J2.out.trans (hB.mono J2.out.size); have O1 : Hid (w1.ownsRow U.heap.size 3 1 v1 n (vi (zi D))) := ho; have Q1 : Hid (w1.cell? ⟨w.heap.size, 0, none⟩ = some (.slice (some ⟨bt, ot, none⟩) n ct)) := (I1.out.of_below hB).cell 0 (by simp); have Q2 : Hid (w1.cell? ⟨w.heap.size + 1, 0, none⟩ = some (.func (.func 25) #[] #[])) := (I2.out.of_below hB).cell 0 (by simp); clear hB ho CL I1 I2)
    | (go_at_call 19; refine (SO.out w1 (w.heap.size + 1) w.heap.size v1 U.heap.size B1.out (by have := SZ.out; omega) (by have := SZ.out; omega) (by have := SZ.out; omega) Q2.out Q1.out O1.out).mono ?_; rintro e w2 ⟨rfl, hB, R, h1, h2⟩; have B2 : Hid (Below w.heap.size w w2) := hB; have R2 : Hid (Best (fun x => tl.getD x 0) D R) := h1; have L2 : Hid (LS w2 v1 (zi R)) := h2; clear hB h1 h2 SO)
    | fail)
  exact bodyPost_ret (v := v1) (by simp [results, Tryd.results24, go_sem]) rfl ⟨⟨v1, R, rfl, R2.out, L2.out⟩, B2.out⟩
end Go.Proofs.YtmdffdcglpbcpaaDoor
