/- extract. -/
import Derived.Test.YtfbceknafmkipaaGreatSl7
set_option linter.unusedSimpArgs false
set_option linter.unusedVariables false
set_option maxRecDepth 100000
namespace Go.Proofs.YtfbceknafmkipaaGreat
open Go.RowKit Go.Deep Go.PlainAid

/-- The walk's condition. -/
theorem cell_keep {w w' : World} {b o : Nat} {v : Value} (h : w.cell? ⟨b, o, none⟩ = some v) (hb : Below w.heap.size w w') : w'.cell? ⟨b, o, none⟩ = some v := (World.cell?_of_block (a := ⟨b, o, none⟩) (hb.block b (cell_lt h))).trans h
set_option maxHeartbeats 2000000 in
theorem extract33 {w : World} {a1 a2 b1 b2 : Option Addr} {xs ys : List ByteArray} {ll mm : List (List ByteArray)} {c1 c2 d1 d2 k : Nat} {z : Int} {dd part : ByteArray} {qs rs : List ByteArray}
    (hx : xs.length ≤ 8796093022207) (hy : ys.length ≤ 8796093022207) (hl : ll.length ≤ 8796093022207) (hm : mm.length ≤ 8796093022207) (kx : k < xs.length) (ky : k < ys.length) (kl : k < ll.length) (km : k < mm.length)
    (s1 : SL w a1 xs) (s2 : SLL w a2 ll) (t1 : SL w b1 ys) (t2 : SLL w b2 mm) (hn : (ll[k]).length ≤ 8796093022207) (he : (mm[k]).length = (ll[k]).length) (hq : qs.length = (ll[k]).length) (hr : rs.length = (ll[k]).length)
    (CM : ∀ W, Calls Tryz.prog 48 #[.agg #[.int .i64 z], .string xs[k], .string ys[k]] W fun e w' => e = .returned (.string dd) ∧ Below W.heap.size W w')
    (CI : ∀ W, Calls Tryz.prog 83 #[.agg #[.int .i64 z], .string dd] W fun e w' => e = .returned (.string part) ∧ Below W.heap.size W w')
    (CF : ∀ i (h1 : i < (ll[k]).length) (h2 : i < (mm[k]).length) (h3 : i < qs.length) W, Calls Tryz.prog 48 #[.agg #[.int .i64 z], .string (ll[k])[i], .string (mm[k])[i]] W fun e w' => e = .returned (.string qs[i]) ∧ Below W.heap.size W w')
    (CT : ∀ i (h1 : i < qs.length) (h2 : i < rs.length) W, Calls Tryz.prog 85 #[.agg #[.int .i64 z], .string qs[i], .string part] W fun e w' => e = .returned (.string rs[i]) ∧ Below W.heap.size W w') :
    Calls Tryz.prog 59 #[.agg #[.int .i64 z], .agg #[.slice a1 xs.length c1, .slice a2 ll.length c2], .agg #[.slice b1 ys.length d1, .slice b2 mm.length d2], .int .i64 (k : Int)] w fun e w' => (∃ a' c', e = .returned (.slice a' rs.length c') ∧ SL w' a' rs) ∧ Below w.heap.size w w' := by
  generalize hW : ((w.alloc (.cells #[.int .i64 z] 39)).alloc (.cells #[.slice a1 xs.length c1, .slice a2 ll.length c2] 63)).alloc (.cells #[.slice b1 ys.length d1, .slice b2 mm.length d2] 63) = W
  have J : Below w.heap.size w W := by rw [← hW]; exact (((Below.refl _ w).alloc (Nat.le_refl _) _).alloc (by simp) _).alloc (by simp; omega) _
  have I0 : IHolds W w.heap.size 39 [.int .i64 z] := by rw [← hW]; exact ((IHolds.new' w 39 [.int .i64 z] rfl).alloc _).alloc _
  have I1 : IHolds W (w.heap.size + 1) 63 [.slice a1 xs.length c1, .slice a2 ll.length c2] := by rw [← hW]; exact (IHolds.new' (w.alloc _) 63 [.slice a1 xs.length c1, .slice a2 ll.length c2] (by simp)).alloc _
  have I2 : IHolds W (w.heap.size + 1 + 1) 63 [.slice b1 ys.length d1, .slice b2 mm.length d2] := by rw [← hW]; exact IHolds.new' ((w.alloc _).alloc _) 63 [.slice b1 ys.length d1, .slice b2 mm.length d2] (by simp)
  obtain ⟨bx, ox, rfl, hcx⟩ := (s1.of_below J) k kx
  obtain ⟨bl, ol, al, cl, rfl, hcl, hsl⟩ := (s2.of_below J) k kl
  obtain ⟨by', oy, rfl, hcy⟩ := (t1.of_below J) k ky
  obtain ⟨bm, om, am, cm, rfl, hcm, hsm⟩ := (t2.of_below J) k km
  have HS1 : Hid (SL W al ll[k]) := hsl
  have HS2 : Hid (SL W am mm[k]) := hsm
  have HB : Hid (Below w.heap.size w W) := J
  have e0 : W.cell? ⟨w.heap.size, 0, none⟩ = some (.int .i64 z) := I0.cell 0 (by simp)
  have e1 : W.cell? ⟨w.heap.size + 1, 0, none⟩ = some (.slice (some ⟨bx, ox, none⟩) xs.length c1) := I1.cell 0 (by simp)
  have e2 : W.cell? ⟨w.heap.size + 1, 1, none⟩ = some (.slice (some ⟨bl, ol, none⟩) ll.length c2) := I1.cell 1 (by simp)
  have e3 : W.cell? ⟨w.heap.size + 1 + 1, 0, none⟩ = some (.slice (some ⟨by', oy, none⟩) ys.length d1) := I2.cell 0 (by simp)
  have e4 : W.cell? ⟨w.heap.size + 1 + 1, 1, none⟩ = some (.slice (some ⟨bm, om, none⟩) mm.length d2) := I2.cell 1 (by simp)
  have HE : Hid ((mm[k]).length = (ll[k]).length) := he
  have HF : Hid (∀ i (h1 : i < (ll[k]).length) (h2 : i < (mm[k]).length) (h3 : i < qs.length) W, Calls Tryz.prog 48 #[.agg #[.int .i64 z], .string (ll[k])[i], .string (mm[k])[i]] W fun e w' => e = .returned (.string qs[i]) ∧ Below W.heap.size W w') := CF
  have HT : Hid (∀ i (h1 : i < qs.length) (h2 : i < rs.length) W, Calls Tryz.prog 85 #[.agg #[.int .i64 z], .string qs[i], .string part] W fun e w' => e = .returned (.string rs[i]) ∧ Below W.heap.size W w') := CT
  have HQ : Hid (qs.length = (ll[k]).length) := hq
  have HR : Hid (rs.length = (ll[k]).length) := hr
  have HN : Hid ((ll[k]).length ≤ 8796093022207) := hn
  clear s1 s2 t1 t2 hsl hsm J I0 I1 I2 he CF CT hq hr hn
  generalize ll[k] = L at *
  generalize mm[k] = M at *
  generalize xs[k] = x at *
  generalize ys[k] = y at *
  have kx' : (k : Int) < (xs.length : Int) := by omega
  have ky' : (k : Int) < (ys.length : Int) := by omega
  have kl' : (k : Int) < (ll.length : Int) := by omega
  have km' : (k : Int) < (mm.length : Int) := by omega
  go_enter Tryz.func59, Tryz.ntmps59
  go_wp2_with fail
  have KP : Hid (∀ V, Below W.heap.size W V → (Below W.heap.size W V ∧ V.cell? ⟨w.heap.size, 0, none⟩ = some (.int .i64 z) ∧ V.cell? ⟨w.heap.size + 1, 0, none⟩ = some (.slice (some ⟨bx, ox, none⟩) xs.length c1) ∧ V.cell? ⟨w.heap.size + 1 + 1, 0, none⟩ = some (.slice (some ⟨by', oy, none⟩) ys.length d1) ∧ V.cell? ⟨bx, ox + k, none⟩ = some (.string x) ∧ V.cell? ⟨by', oy + k, none⟩ = some (.string y))) := fun V hb => ⟨hb, cell_keep e0 hb, cell_keep e1 hb, cell_keep e3 hb, cell_keep hcx hb, cell_keep hcy hb⟩
  have HE0 : Hid _ := e0
  have HE2 : Hid _ := e2
  have HE4 : Hid _ := e4
  have HCL : Hid _ := hcl
  have HCM : Hid _ := hcm
  have sA : Hid (∀ V o, Below W.heap.size W V → Below W.heap.size W (V.alloc o)) := fun V o h => h.alloc h.size o
  have sB : Hid (∀ V V', Below V.heap.size V V' → Below W.heap.size W V → Below W.heap.size W V') := fun V V' h h' => h'.trans (h.mono h'.size)
  have sD : Hid (∀ o, Below W.heap.size W (W.alloc o).drew) := fun o => (nB W o).drew
  have sS : Hid (∀ V b v, W.heap.size ≤ b → Below W.heap.size W V → Below W.heap.size W (V.setCell ⟨b, 0, none⟩ v)) := fun V b v hb h => Below.setCell h hb _
  clear e0 e1 e2 e3 e4 hcl hcm hcx hcy hW
  refine Code.wp_mono (Q := fun e a' w' => match e with | .normal => (∃ b, a' = ⟨#[.agg #[.int .i64 z], .agg #[.slice (some ⟨bx, ox, none⟩) xs.length c1, .slice (some ⟨bl, ol, none⟩) ll.length c2], .agg #[.slice (some ⟨by', oy, none⟩) ys.length d1, .slice (some ⟨bm, om, none⟩) mm.length d2], .int .i64 (k : Int), .pointer (some ⟨w.heap.size, 0, none⟩), .pointer (some ⟨w.heap.size + 1, 0, none⟩), .pointer (some ⟨w.heap.size + 1 + 1, 0, none⟩), undef, .slice none 0 0, .pointer (some ⟨b, 0, none⟩), .agg #[.int .i64 z], .agg #[.int .i64 z], .pointer (some ⟨w.heap.size + 1, 0, none⟩), .slice (some ⟨bx, ox, none⟩) xs.length c1, .int .i64 (k : Int), .pointer (some ⟨bx, ox + k, none⟩), .string x, .pointer (some ⟨w.heap.size + 1 + 1, 0, none⟩), .slice (some ⟨by', oy, none⟩) ys.length d1, .int .i64 (k : Int), .pointer (some ⟨by', oy + k, none⟩), .string y, .string dd, .string part, undef, undef, undef, undef, undef, undef, undef, undef, undef, undef, undef, undef, undef, undef, undef], []⟩ ∧ Below W.heap.size W w' ∧ IHolds w' b 9 [.string part]) | _ => False) ?next ?here
  case here =>
    go_region_held (fun V => Below W.heap.size W V ∧ V.cell? ⟨w.heap.size, 0, none⟩ = some (.int .i64 z) ∧ V.cell? ⟨w.heap.size + 1, 0, none⟩ = some (.slice (some ⟨bx, ox, none⟩) xs.length c1) ∧ V.cell? ⟨w.heap.size + 1 + 1, 0, none⟩ = some (.slice (some ⟨by', oy, none⟩) ys.length d1) ∧ V.cell? ⟨bx, ox + k, none⟩ = some (.string x) ∧ V.cell? ⟨by', oy + k, none⟩ = some (.string y))
      (first | exact KP.out _ (dB _) | exact KP.out _ (sD.out _) | exact KP.out _ B4.out | exact KP.out _ B3.out | exact KP.out _ (sA.out _ _ (And.left (by assumption))) | exact KP.out _ (sA.out _ _ B4.out) | exact KP.out _ (sS.out _ _ _ B3.out.size B4.out) | exact KP.out _ (sS.out _ _ _ (Nat.le_refl _) B4.out) | fail)
      (first
        | (go_at_call 48; refine (CM _).mono ?_; rintro e w3 ⟨rfl, hB3⟩; have B3 : Hid (Below W.heap.size W w3) := sB.out _ _ hB3 (And.left (by assumption)); try (have I3 : Hid (IHolds w3 W.heap.size 9 [.string ⟨#[]⟩]) := (show IHolds (W.alloc (.cells #[.string ⟨#[]⟩] 9)).drew W.heap.size 9 [.string ⟨#[]⟩] from IHolds.new' W 9 [.string ⟨#[]⟩] rfl).of_below hB3))
        | (go_at_call 83; refine (CI _).mono ?_; rintro e w4 ⟨rfl, hB4⟩; have B4 : Hid (Below W.heap.size W w4) := sB.out _ _ hB4 (And.left (by assumption)); (try (have I4 : Hid (IHolds w4 W.heap.size 9 [.string ⟨#[]⟩]) := I3.out.of_below hB4; have f4 : w4.frozen? ⟨W.heap.size, 0, none⟩ = false := I4.out.frozen 0; have g4 : w4.cell? ⟨W.heap.size, 0, none⟩ = some (.string ⟨#[]⟩) := I4.out.cell 0 (by simp))); (try (have I5 : Hid (IHolds w4 w3.heap.size 9 [.string ⟨#[]⟩]) := (IHolds.new' w3 9 [.string ⟨#[]⟩] rfl).of_below hB4; have f5 : w4.frozen? ⟨w3.heap.size, 0, none⟩ = false := I5.out.frozen 0; have g5 : w4.cell? ⟨w3.heap.size, 0, none⟩ = some (.string ⟨#[]⟩) := I5.out.cell 0 (by simp)))))
    all_goals first
      | exact ⟨_, rfl, sA.out _ _ B4.out, IHolds.new' w4 9 [.string part] rfl⟩
      | exact ⟨_, rfl, sS.out _ _ _ B3.out.size B4.out, I5.out.set 0 (.string part)⟩
      | exact ⟨_, rfl, sS.out _ _ _ (Nat.le_refl _) B4.out, I4.out.set 0 (.string part)⟩
  case next =>
    clear KP CM CI
    intro ex a' w' h
    cases ex with
    | normal =>
      obtain ⟨b, rfl, hb, hi⟩ := h
      have B1 : Hid (Below W.heap.size W w') := hb
      have I1 : Hid (IHolds w' b 9 [.string part]) := hi
      have hmf : ∀ (fn : Fn) (first cap : Array Value) (w : World), (Instr.makeFunc fn first cap).run Tryz.prog w = .ok (.func fn first cap) w := fun _ _ _ _ => rfl
      clear hb hi
      have e0 := cell_keep HE0.out B1.out
      have e2 := cell_keep HE2.out B1.out
      have e4 := cell_keep HE4.out B1.out
      have hcl := cell_keep HCL.out B1.out
      have hcm := cell_keep HCM.out B1.out
      have C70 : Hid (∀ V, Below w'.heap.size w' V → Calls Tryz.prog 51 #[.slice al L.length cl, .slice am M.length cm, .func (.func 48) #[.agg #[.int .i64 z]] #[]] V fun e V' => (∃ a' c', e = .returned (.slice a' qs.length c') ∧ SL V' a' qs) ∧ Below V.heap.size V V') := fun V hV => by
        have q := both70 (c := cl) (d := cm) HN.out HE.out HQ.out ((HS1.out.of_below B1.out).of_below hV) ((HS2.out.of_below B1.out).of_below hV) HF.out
        rw [← HQ.out] at q
        rw [← HQ.out]
        exact q
      have C69 : Hid (∀ V a' c', Below w'.heap.size w' V → SL V a' qs → Calls Tryz.prog 44 #[.slice a' qs.length c', .func (.func 84) #[] #[.pointer (some ⟨w.heap.size, 0, none⟩), .pointer (some ⟨b, 0, none⟩)]] V fun e V' => (∃ a' c', e = .returned (.slice a' rs.length c') ∧ SL V' a' rs) ∧ Below V.heap.size V V') := fun V a' c' hV hq => by
        have q := each69 (c := c') (g := w.heap.size) (p := b) (q := rs) (by rw [HQ.out]; exact HN.out) (HR.out.trans HQ.out.symm) hq (fun i h1 h3 V2 hV2 => clos71 (cell_keep (cell_keep e0 hV) hV2) (cell_keep (cell_keep (I1.out.cell 0 (by simp)) hV) hV2) (HT.out i h1 h3))
        rw [HR.out, ← HQ.out]
        exact q
      have KQ : Hid (∀ V, Below w'.heap.size w' V → (Below w'.heap.size w' V ∧ V.cell? ⟨w.heap.size, 0, none⟩ = some (.int .i64 z) ∧ V.cell? ⟨w.heap.size + 1, 1, none⟩ = some (.slice (some ⟨bl, ol, none⟩) ll.length c2) ∧ V.cell? ⟨w.heap.size + 1 + 1, 1, none⟩ = some (.slice (some ⟨bm, om, none⟩) mm.length d2) ∧ V.cell? ⟨bl, ol + k, none⟩ = some (.slice al L.length cl) ∧ V.cell? ⟨bm, om + k, none⟩ = some (.slice am M.length cm))) := fun V hb => ⟨hb, cell_keep e0 hb, cell_keep e2 hb, cell_keep e4 hb, cell_keep hcl hb, cell_keep hcm hb⟩
      have tB : Hid (∀ V V', Below V.heap.size V V' → Below w'.heap.size w' V → Below w'.heap.size w' V') := fun V V' h h' => h'.trans (h.mono h'.size)
      clear e0 e2 e4 hcl hcm sA sB sS sD HF HT HE0 HE2 HE4 HCL HCM HS1 HS2
      go_wp2_with fail
      go_region_held (fun V => Below w'.heap.size w' V ∧ V.cell? ⟨w.heap.size, 0, none⟩ = some (.int .i64 z) ∧ V.cell? ⟨w.heap.size + 1, 1, none⟩ = some (.slice (some ⟨bl, ol, none⟩) ll.length c2) ∧ V.cell? ⟨w.heap.size + 1 + 1, 1, none⟩ = some (.slice (some ⟨bm, om, none⟩) mm.length d2) ∧ V.cell? ⟨bl, ol + k, none⟩ = some (.slice al L.length cl) ∧ V.cell? ⟨bm, om + k, none⟩ = some (.slice am M.length cm))
        (first | exact KQ.out _ (dB _) | assumption | exact KQ.out _ B6.out | exact KQ.out _ B5.out | fail)
        (first
          | (go_at_call 51; refine (C70.out _ (And.left (by assumption))).mono ?_; rintro e w5 ⟨⟨a5, c5, rfl, hs5⟩, hB5⟩; have B5 : Hid (Below w'.heap.size w' w5) := tB.out _ _ hB5 (And.left (by assumption)); have S5 : Hid (SL w5 a5 qs) := hs5; clear hs5)
          | (go_at_call 44; refine (C69.out _ _ _ (And.left (by assumption)) S5.out).mono ?_; rintro e w6 ⟨⟨a6, c6, rfl, hs6⟩, hB6⟩; have B6 : Hid (Below w'.heap.size w' w6) := tB.out _ _ hB6 (And.left (by assumption)); have S6 : Hid (SL w6 a6 rs) := hs6; clear hs6))
      all_goals (go_wp2_with fail)
      all_goals go_ret
      all_goals exact ⟨⟨_, _, rfl, S6.out⟩, HB.out.trans ((B1.out.trans (B6.out.mono B1.out.size)).mono HB.out.size)⟩
    | _ => exact h.elim
end Go.Proofs.YtfbceknafmkipaaGreat
