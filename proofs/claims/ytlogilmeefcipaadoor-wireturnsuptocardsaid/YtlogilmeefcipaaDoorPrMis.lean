/- misshapen comes to an end. -/
import Derived.Test.YtlogilmeefcipaaDoorPrMis0
set_option linter.unusedSimpArgs false
set_option linter.unusedVariables false
set_option maxRecDepth 100000
namespace Go.Proofs.YtlogilmeefcipaaDoor
open Go.RowKit Go.Deep Go.PlainAid

theorem info22 : (Tryd.prog.info? 22).map (fun i => (i.zero, i.size, i.bytes)) = some (some (.slice none 0 0), 1, 24) := by kernel_rfl
theorem bk_take_succ {l : List Gn} {k j : Nat} (h : k + j < l.length) : bk ((l.drop k).take (j + 1)) = bk ((l.drop k).take j) + bk [l[k + j]] := by
  have h' : j < (l.drop k).length := by rw [List.length_drop]; omega
  rw [List.take_succ_eq_append_getElem h', bk_append, List.getElem_drop]
theorem bk_drop_take (l : List Gn) (k j : Nat) : bk ((l.drop k).take j) ≤ bk l := by
  have e1 : bk (l.take k ++ l.drop k) = bk l := by rw [List.take_append_drop]
  have e2 : bk ((l.drop k).take j ++ (l.drop k).drop j) = bk (l.drop k) := by rw [List.take_append_drop]
  rw [bk_append] at e1 e2
  omega
theorem mu_len : ∀ st : List It, st.length ≤ mu st
  | [] => by simp
  | x :: r => by have := mu_len r; simp only [List.length_cons, mu]; omega
/-- The world in which the first list lies. -/
abbrev mW (w : World) (a b c : Value) : World := (((w.alloc (.cells #[a, b, c] 24)).alloc (.map #[] 0)).alloc (.cells #[a, b, c] 24)).alloc (.cells #[.slice (some ⟨w.heap.size + 1 + 1, 0, none⟩) 1 1] 22)
theorem mW_start {w0 : World} {n : Gn} {a b c : Value} (hn : GAt w0 n a b c) (hz : GFz w0 n c) (w : World) :
    MW w0 w (w.heap.size + 1) (w.heap.size + 1 + 1) (.slice (some ⟨w.heap.size + 1 + 1 + 1, 0, none⟩) 1 1) [⟨w.heap.size + 1 + 1, 0, 1, [n]⟩] (mW w a b c) := by
  have hq : IHolds (mW w a b c) (w.heap.size + 1 + 1) 24 [a, b, c] := (IHolds.new' ((w.alloc (.cells #[a, b, c] 24)).alloc (.map #[] 0)) 24 [a, b, c] (by simp)).alloc _
  have hr : IHolds (mW w a b c) (w.heap.size + 1 + 1 + 1) 22 [.slice (some ⟨w.heap.size + 1 + 1, 0, none⟩) 1 1] := IHolds.new' (((w.alloc (.cells #[a, b, c] 24)).alloc (.map #[] 0)).alloc (.cells #[a, b, c] 24)) 22 [.slice (some ⟨w.heap.size + 1 + 1, 0, none⟩) 1 1] (by simp)
  have hm : (mW w a b c).heap[w.heap.size + 1]? = some (.map #[] 0) := by
    have e : ((w.alloc (.cells #[a, b, c] 24)).alloc (.map #[] 0)).heap[w.heap.size + 1]? = some (.map #[] 0) := by
      have := heap_alloc_new (w.alloc (.cells #[a, b, c] 24)) (.map #[] 0)
      rw [show (w.alloc (.cells #[a, b, c] 24)).heap.size = w.heap.size + 1 by simp] at this
      exact this
    rw [Below.heap_alloc _ _ _ (by simp), Below.heap_alloc _ _ _ (by simp)]
    exact e
  refine ⟨(((((Below.refl _ w).alloc (Nat.le_refl _) _).alloc (by simp) _).alloc (by simp; omega) _).alloc (by simp; omega) _), hq.lt, ⟨#[], 0, hm, fun e he => by simp at he⟩, ⟨by simp, Or.inr ⟨_, 1, _, rfl, Nat.le_refl _, hr, by simp, by unfold maxLen; omega, by simp, by simp [It.val]⟩⟩, ?_⟩
  intro x hx
  simp only [List.mem_singleton] at hx
  subst hx
  refine ⟨by simp, by simp, ⟨_, _, _, _, _, rfl, Or.inr rfl, hq, hq.frozen 0⟩, ?_⟩
  intro i hi
  obtain rfl : i = 0 := by simp at hi; omega
  exact ⟨a, b, c, hq.cell 0 (by simp), hq.cell 1 (by simp), hq.cell 2 (by simp), hn, hz⟩
theorem ItOk.below {w0 w : World} {q : Nat} {wr wr' : World} {x : It} (h : ItOk w0 w q wr x) (hq : q < wr.heap.size) (hw : w.heap.size ≤ wr.heap.size) (hb : Below wr.heap.size wr wr') : ItOk w0 w q wr' x :=
  h.keep (fun b hS => hb.block b (by rcases hS with h | h <;> omega))
theorem cells_of_cell {w : World} {b o : Nat} {v : Value} (h : w.cell? ⟨b, o, none⟩ = some v) : ∃ cs t fr, w.heap[b]? = some (.cells cs t fr) := by
  unfold World.cell? at h
  split at h
  · rename_i h1
    exact ⟨_, _, _, h1⟩
  · cases h
theorem push_ok {w0 w wr : World} {q : Nat} {lf : Bool} {t : List UInt8} {l : List Gn} {x y : Value} {adr : Option Addr} {cap : Nat} (hG : GAt w0 (.mk lf t l) x y (.slice adr l.length cap)) (hF : GFz w0 (.mk lf t l) (.slice adr l.length cap)) (hl : l ≠ []) (hw : Below w0.heap.size w0 w) (hr : Below w.heap.size w wr) :
    ∃ b o, adr = some ⟨b, o, none⟩ ∧ ItOk w0 w q wr ⟨b, o, cap, l⟩ := by
  have hwr : Below w0.heap.size w0 wr := hw.trans (hr.mono hw.size)
  have hpos : 0 < l.length := List.length_pos_iff.2 hl
  generalize hc0 : Value.slice adr l.length cap = c at hG hF
  cases hG with
  | mk _ _ _ adr1 cap1 c1 c2 c3 hc hn =>
    cases hF with
    | mk _ _ _ adr2 cap2 d3 hcap hz hd hm =>
      simp only [Value.slice.injEq] at hc0
      obtain ⟨rfl, _, rfl⟩ := hc0
      obtain ⟨b, o, e1, e2⟩ := hz hl
      subst e1
      have hin : ∀ i, i < l.length → b < w0.heap.size ∧ w0.cell? ⟨b, o + 3 * i, none⟩ = some (c1 i) ∧ w0.cell? ⟨b, o + 3 * i + 1, none⟩ = some (c2 i) ∧ w0.cell? ⟨b, o + 3 * i + 2, none⟩ = some (c3 i) := by
        intro i hi
        obtain ⟨b', o', e, h1, h2, h3, h4⟩ := hc i hi
        simp only [Option.some.injEq, Addr.mk.injEq, and_true] at e
        obtain ⟨rfl, rfl⟩ := e
        exact ⟨h1, h2, h3, h4⟩
      have hb := (hin 0 hpos).1
      have eb := hwr.block b hb
      obtain ⟨cs, ty, fr, hcs⟩ := cells_of_cell (hin 0 hpos).2.1
      refine ⟨b, o, rfl, hl, hcap, ⟨b, o, cs, ty, fr, rfl, Or.inl (Nat.lt_of_lt_of_le hb hw.size), by rw [eb]; exact hcs, by rw [World.frozen?_of_block (a := ⟨b, o, none⟩) eb]; exact e2⟩, ?_⟩
      intro i hi
      obtain ⟨_, h2, h3, h4⟩ := hin i hi
      have e3 : c3 i = d3 i := by
        obtain ⟨b', o', e, h5⟩ := hd i hi
        simp only [Option.some.injEq, Addr.mk.injEq, and_true] at e
        obtain ⟨rfl, rfl⟩ := e
        rw [h4] at h5
        exact Option.some.inj h5
      refine ⟨c1 i, c2 i, c3 i, (World.cell?_of_block (a := ⟨b, _, none⟩) eb).trans h2, (World.cell?_of_block (a := ⟨b, _, none⟩) eb).trans h3, (World.cell?_of_block (a := ⟨b, _, none⟩) eb).trans h4, hn i hi, ?_⟩
      rw [e3]
      exact hm i hi
theorem MW.push {w0 w : World} {m q : Nat} {v v1 : Value} {st : List It} {x : It} {u w5 : World} (h : MW w0 w m q v st u) (hm : m < q) (hwm : w.heap.size ≤ m) (o : Obj) (hown : w5.ownsRow (q + 1) 22 1 v1 (st.length + 1) (st.map It.val ++ [x.val])) (hgrow : (u.alloc o).grownBy w5 v.ownBlock) (hx : ItOk w0 w q u x) :
    MW w0 w m q v1 (st ++ [x]) w5 ∧ (∀ b, Sb w q b → w5.heap[b]? = u.heap[b]?) := by
  have hl := h.lt
  have hsz : (u.alloc o).heap.size = u.heap.size + 1 := by simp
  have hk : ∀ b, b ≤ q → w5.heap[b]? = u.heap[b]? := fun b hb => by
    rw [hgrow.block b (by omega) (fun e => by have := (h.own.lt b e.symm).1; omega), Lib.alloc_old u _ b (by omega)]
  have hS : ∀ b, Sb w q b → w5.heap[b]? = u.heap[b]? := fun b hb' => hk b (by rcases hb' with h | h <;> omega)
  refine ⟨h.keep hm hwm hk (by have := hgrow.size; omega) hgrow.os hgrow.tape hgrow.output (by simpa using hown) ?_, hS⟩
  intro y hy
  simp only [List.mem_append, List.mem_singleton] at hy
  rcases hy with hy | rfl
  · exact Or.inl hy
  · exact Or.inr (hx.keep hS)
theorem new1 (w : World) (a : Value) : ∀ j u, [a][j]? = some u → (w.alloc (.cells #[a] 22)).cell? ((⟨w.heap.size, 0, none⟩ : Addr).add j) = some u := by
  intro j u h
  obtain ⟨hj, rfl⟩ := List.getElem?_eq_some_iff.1 h
  rw [add_zero_off']
  exact (IHolds.new w 22 [a]).cell j hj
set_option maxHeartbeats 4000000 in
theorem misshapen_any {w0 : World} {n : Gn} {a b c : Value} (hn : GAt w0 n a b c) (hz : GFz w0 n c) (hk : bk [n] ≤ 1048576) (w : World) (hw : Below w0.heap.size w0 w) :
    Calls Tryd.prog 21 #[.agg #[a, b, c]] w fun e w' => ∃ r, e = .returned (.bool r) ∧ Below w.heap.size w w' := by
  obtain ⟨i0, hi0, hz0, hz1, hz2⟩ := info_parts' info22
  have M0 : Hid (MW w0 w (w.heap.size + 1) (w.heap.size + 1 + 1) (.slice (some ⟨w.heap.size + 1 + 1 + 1, 0, none⟩) 1 1) [⟨w.heap.size + 1 + 1, 0, 1, [n]⟩] (mW w a b c)) := mW_start hn hz w
  have K0 : Hid (mu [⟨w.heap.size + 1 + 1, 0, 1, [n]⟩] ≤ 1048577) := by show _ ≤ _; simp [mu]; omega
  obtain ⟨ab, bb, ca, cm, cc, rfl, rfl, rfl⟩ := hn.form
  have hmk : ∀ w : World, (Instr.makeMap 62 none).run Tryd.prog w = .ok (.map (some w.heap.size)) (w.alloc (.map #[] 0)) := fun _ => rfl
  obtain ⟨m, hm⟩ : ∃ m, m = w.heap.size + 1 := ⟨_, rfl⟩
  have hmq : m < m + 1 := by omega
  have hwm : w.heap.size ≤ m := by omega
  clear hn hz hk
  go_enter Tryd.func21, Tryd.ntmps21
  go_wp2_with fail
  simp only [mW, ← hm] at *
  clear hm
  go_loopg [4, 5, 6, 8] 1048577 (fun gk v4 v5 v6 v8 wr => ∃ v st, v = v4 ∧ mu st ≤ gk ∧ gk ≤ 1048577 ∧ MW w0 w m (m + 1) v st wr)
  case atStart => exact ⟨_, _, rfl, K0.out, Nat.le_refl _, M0.out⟩
  case round =>
    obtain ⟨v, st, rfl, hmu, hgk, hMW⟩ := hrel
    have MM : Hid (MW w0 w m (m + 1) v st wr) := hMW
    clear hMW M0 K0
    rcases List.eq_nil_or_concat st with rfl | ⟨st', x, rfl⟩
    · obtain ⟨av, cv, rfl⟩ : ∃ av cv, v = .slice av 0 cv := by
        rcases MM.out.own.2 with ⟨hv, _⟩ | ⟨g, cap, cur, hv, _⟩
        · exact ⟨_, _, hv⟩
        · exact ⟨_, _, hv⟩
      go_wp2_with fail
      go_ret
      exact ⟨_, rfl, MM.out.bel⟩
    · rw [List.concat_eq_append] at MM hmu
      obtain ⟨g, cap, rfl, hgc, hgm, hcell, hM1⟩ := MM.out.pop
      have M1 : Hid (MW w0 w m (m + 1) (.slice (some ⟨g, 0, none⟩) st'.length cap) st' wr) := hM1
      have IX : Hid (ItOk w0 w (m + 1) wr x) := MM.out.items x (by simp)
      have hxm := mu_snoc st' x
      have hsl := mu_len st'
      have hsl2 : st'.length ≤ 1048577 := by omega
      obtain ⟨xb, xo, xc, xl⟩ := x
      have hne : 0 < xl.length := List.length_pos_iff.2 IX.out.ne
      have hxc := IX.out.cap
      have hxl := len_bk xl
      simp only [It.val] at hcell hxm
      clear hM1 MM
      obtain ⟨k, j, hlk, hk⟩ := lookup_run M1.out.map IX.out.key
      have M2 : Hid (MW w0 w m (m + 1) (.slice (some ⟨g, 0, none⟩) st'.length cap) st' (wr.drewN j)) := M1.out.draw j
      have IX2 : Hid (ItOk w0 w (m + 1) (wr.drewN j) ⟨xb, xo, xc, xl⟩) := IX.out.keep (fun _ _ => rfl)
      by_cases hkl : (xl.length : Int) ≤ (k : Int)
      · go_wp2_with fail
        go_roundg (gk - 1)
        case measure => omega
        case rel => exact ⟨_, st', rfl, by omega, by omega, M2.out⟩
      · obtain ⟨w3, hup, hmp, hbt⟩ := update_run (k := xl.length) M2.out.map IX2.out.key (by omega)
        have M3 : Hid (MW w0 w m (m + 1) (.slice (some ⟨g, 0, none⟩) st'.length cap) st' w3) := M2.out.told hmq hwm hmp hbt
        have IX3 : Hid (ItOk w0 w (m + 1) w3 ⟨xb, xo, xc, xl⟩) := IX2.out.keep (fun b hb => hbt.block b (by
          have h1 := M2.out.lt
          have h2 := M2.out.bel.size
          rcases hb with hb | hb <;> omega) (by rcases hb with hb | hb <;> omega))
        have hbx : bk xl ≤ 1048576 := by omega
        have hkl2 : k < xl.length := by omega
        clear M1 M2 IX IX2 hmp hbt
        simp only at hlk hup hxc
        go_wp2_with fail
        go_loopg [4, 8, 44] (xl.length - k) (fun gj v4 v8 v44 wr => ∃ v st jj, v = v4 ∧ v44 = .int .i64 ((jj : Nat) : Int) ∧ jj + gj = xl.length - k ∧ mu st ≤ mu st' + bk ((xl.drop k).take jj) ∧ MW w0 w m (m + 1) v st wr ∧ ItOk w0 w (m + 1) wr ⟨xb, xo, xc, xl⟩)
        case atStart => exact ⟨_, st', 0, rfl, rfl, by omega, by simp [bk], M3.out, IX3.out⟩
        case round =>
          obtain ⟨v, st, jj, rfl, rfl, hj, hms, hMW, hIt⟩ := hrel
          have M4 : Hid (MW w0 w m (m + 1) v st wr) := hMW
          have IX4 : Hid (ItOk w0 w (m + 1) wr ⟨xb, xo, xc, xl⟩) := hIt
          clear hMW hIt M3 IX3
          have hdt := bk_drop_take xl k jj
          by_cases hi : k + jj < xl.length
          · obtain ⟨x, y, z, x1, x2, x3, hG, hF⟩ := IX4.out.cells (k + jj) hi
            simp only at x1 x2 x3 hG hF
            have hbs := bk_take_succ hi
            have il : ((jj : Nat) : Int) < (xl.length : Int) - (k : Int) := by omega
            have eo : xo + 3 * (k + jj) = xo + k * 3 + jj * 3 := by omega
            rw [eo] at x1 x2 x3
            generalize xl[k + jj] = nn at *
            obtain ⟨lf, t, l⟩ := nn
            obtain ⟨adr, acap, rfl, rfl, rfl⟩ : ∃ adr acap, x = .bool lf ∧ y = S t ∧ z = .slice adr l.length acap := by cases hG; exact ⟨_, _, rfl, rfl, rfl⟩
            have hI := fun W => inShape_any lf t l adr acap W
            have hl1 := len_bk l
            have hlb : bk [.mk lf t l] = t.length + 1 + bk l := by rw [bk]; simp [bk]
            have hll : l.length ≤ 1048576 := by have := bk_drop_take xl k (jj + 1); omega
            have HG : Hid _ := hG
            have HF : Hid _ := hF
            have M5 : Hid (MW w0 w m (m + 1) v st (wr.alloc (.cells #[.bool lf, S t, .slice adr l.length acap] 24))) := M4.out.below hmq hwm ((Below.refl _ wr).alloc (Nat.le_refl _) _)
            have IX5 : Hid (ItOk w0 w (m + 1) (wr.alloc (.cells #[.bool lf, S t, .slice adr l.length acap] 24)) ⟨xb, xo, xc, xl⟩) := IX4.out.keep (fun b hb => Lib.alloc_old wr _ b (by
              have h1 := M4.out.lt
              have h2 := M4.out.bel.size
              rcases hb with hb | hb <;> omega))
            have N5 : Hid (IHolds (wr.alloc (.cells #[.bool lf, S t, .slice adr l.length acap] 24)) wr.heap.size 24 [.bool lf, S t, .slice adr l.length acap]) := IHolds.new' wr 24 [.bool lf, S t, .slice adr l.length acap] rfl
            clear hG hF M4 IX4 hcell hlk hup
            cases hs : shp lf t l with
            | false =>
              rw [hs] at hI
              go_wp2_with (go_at_call 33; refine (hI _).mono ?_; rintro e w6 ⟨rfl, hB6⟩; have M6 : Hid (MW w0 w m (m + 1) v st w6) := M5.out.below hmq hwm hB6; clear hB6)
              go_ret
              exact ⟨_, rfl, M6.out.bel⟩
            | true =>
              rw [hs] at hI
              clear hs
              by_cases hl0 : l = []
              · have hl0' : ¬ (0 : Int) < (l.length : Int) := by rw [hl0]; simp
                clear hl0 hlb hl1
                go_wp2_with (go_at_call 33; refine (hI _).mono ?_; rintro e w6 ⟨rfl, hB6⟩; have M6 : Hid (MW w0 w m (m + 1) v st w6) := M5.out.below hmq hwm hB6; have IX6 : Hid (ItOk w0 w (m + 1) w6 ⟨xb, xo, xc, xl⟩) := IX5.out.below M5.out.lt M5.out.bel.size hB6; have N6 : Hid (IHolds w6 wr.heap.size 24 [.bool lf, S t, .slice adr l.length acap]) := N5.out.of_below hB6; have d2 : w6.cell? ⟨wr.heap.size, 2, none⟩ = some (.slice adr l.length acap) := N6.out.cell 2 (by simp); clear hB6)
                go_roundg (gk - 1)
                case measure => omega
                case rel => exact ⟨v, st, jj + 1, rfl, by go_num, by omega, by omega, M6.out, IX6.out⟩
              · have hl0' : (0 : Int) < (l.length : Int) := by have := List.length_pos_iff.2 hl0; omega
                obtain ⟨va, vm, vc, rfl⟩ : ∃ va vm vc, v = .slice va vm vc := by
                  rcases M5.out.own.2 with ⟨hv, _⟩ | ⟨g, cap, cur, hv, _⟩
                  · exact ⟨_, _, _, hv⟩
                  · exact ⟨_, _, _, hv⟩
                have hst := mu_len st
                have HL : Hid (l ≠ []) := hl0
                clear hl0
                go_wp2_with (first | (go_at_call 33; refine (hI _).mono ?_; rintro e w6 ⟨rfl, hB6⟩; have M6 : Hid (MW w0 w m (m + 1) (.slice va vm vc) st w6) := M5.out.below hmq hwm hB6; have IX6 : Hid (ItOk w0 w (m + 1) w6 ⟨xb, xo, xc, xl⟩) := IX5.out.below M5.out.lt M5.out.bel.size hB6; have N6 : Hid (IHolds w6 wr.heap.size 24 [.bool lf, S t, .slice adr l.length acap]) := N5.out.of_below hB6; have d2 : w6.cell? ⟨wr.heap.size, 2, none⟩ = some (.slice adr l.length acap) := N6.out.cell 2 (by simp); have O6 : Hid ((w6.alloc (.cells #[.slice adr l.length acap] 22)).ownsRow (m + 1 + 1) 22 1 (.slice va vm vc) st.length (st.map It.val)) := M6.out.own.alloc _; have Z6 : Hid (m + 1 + 1 ≤ (w6.alloc (.cells #[.slice adr l.length acap] 22)).heap.size) := (by show _ ≤ _; have := M6.out.lt; simp; omega); clear hB6) | (at_builtin; refine wpList_append_own_at _ rfl (.tmp 55) (.tmp 58) 63 rfl (m + 1 + 1) 22 i0 (.slice none 0 0) 1 24 Tryd.underlying63 hi0 hz0 hz1 hz2 rfl (by decide) (.slice va vm vc) st.length (st.map It.val) rfl O6.out ⟨w6.heap.size, 0, none⟩ 1 1 [.slice adr l.length acap] rfl rfl (new1 w6 _) (by intro u hu; simp at hu; subst hu; rfl) (by unfold maxLen; omega) (by omega) Z6.out ?_; intro v1 w7 hown1 hgrow1 hn1 hat1; have O7 : Hid (w7.ownsRow (m + 1 + 1) 22 1 v1 (st.length + 1) (st.map It.val ++ [.slice adr l.length acap])) := hown1; have G7 : Hid ((w6.alloc (.cells #[.slice adr l.length acap] 22)).grownBy w7 (Value.slice va vm vc).ownBlock) := hgrow1; clear hown1 hgrow1 hn1 hat1))
                obtain ⟨nb, no, rfl, hIt⟩ := push_ok (q := m + 1) HG.out HF.out HL.out hw M6.out.bel
                obtain ⟨M7, S7⟩ := M6.out.push (x := ⟨nb, no, acap, l⟩) hmq hwm _ O7.out G7.out hIt
                have hm7 := mu_snoc st ⟨nb, no, acap, l⟩
                simp only at hm7
                go_roundg (gk - 1)
                case measure => omega
                case rel => exact ⟨v1, _, jj + 1, rfl, by go_num, by omega, by omega, M7, IX6.out.keep S7⟩
          · have il : ¬ ((jj : Nat) : Int) < (xl.length : Int) - (k : Int) := by omega
            go_wp2_with fail
            go_roundg (mu st)
            case measure => omega
            case rel => exact ⟨_, st, rfl, Nat.le_refl _, by omega, M4.out⟩
end Go.Proofs.YtlogilmeefcipaaDoor
