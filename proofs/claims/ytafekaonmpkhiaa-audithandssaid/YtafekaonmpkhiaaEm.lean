/- The document's Boxes. -/
import Derived.Test.YtafekaonmpkhiaaEl
import Derived.Deep.CutBlock
set_option linter.unusedSimpArgs false
set_option linter.unusedVariables false
set_option maxRecDepth 100000
namespace Go.Proofs.Ytafekaonmpkhiaa
open Go.Shelf Go.Sort Go.Lib Go.RowKit Go.Deep Go.PlainAid

theorem add_add2 (b o i j : Nat) : ((⟨b, o, none⟩ : Addr).add i).add j = ⟨b, o + i + j, none⟩ := by
  unfold Addr.add
  by_cases h1 : i = 0 <;> by_cases h2 : j = 0 <;> simp [h1, h2]
theorem rows_one {l : List Hd} {ns : List ByteArray} : ∀ u ∈ rowsB l ns, u.oneCell' = true := by
  intro u hu
  unfold rowsB at hu
  obtain ⟨nm, _, h⟩ := List.mem_flatMap.1 hu
  simp [encB] at h
  rcases h with rfl | rfl | rfl | rfl <;> rfl
theorem rows_app (l : List Hd) (a b : List ByteArray) : rowsB l (a ++ b) = rowsB l a ++ rowsB l b := by simp [rowsB]
theorem lr_parts {W V : World} {base n c k : Nat} {a : Option Addr} {l : List Hd} {ns : List ByteArray} (ho : W.ownsRow base 38 4 (.slice a n c) n (rowsB l ns)) (hn : n = ns.length) (hk : k ≤ n) (hb : Below W.heap.size W V) :
    LR V (sliced a 0 k c 4) k (rowsB l (ns.take k)) ∧ LR V (sliced a k n c 4) (n - k) (rowsB l (ns.drop k)) := by
  have e : rowsB l ns = rowsB l (ns.take k) ++ rowsB l (ns.drop k) := by rw [← rows_app, List.take_append_drop]
  have l1 : (rowsB l (ns.take k)).length = k * 4 := by rw [rowsB_len, List.length_take]; congr 1; omega
  have l2 : (rowsB l (ns.drop k)).length = (n - k) * 4 := by rw [rowsB_len, List.length_drop, hn]
  obtain ⟨hl, ⟨e0, h0⟩ | ⟨g, cap, cur, e0, hbg, hg, hnc, hm, hs, ht⟩⟩ := id ho
  · cases e0
    obtain rfl : k = 0 := by omega
    refine ⟨⟨rows_one, .inl ⟨rfl, rfl, List.eq_nil_of_length_eq_zero (by rw [l1])⟩⟩, ⟨rows_one, .inl ⟨rfl, rfl, List.eq_nil_of_length_eq_zero (by rw [l2])⟩⟩⟩
  · cases e0
    have cell : ∀ j u, (rowsB l ns)[j]? = some u → V.cell? ⟨g, j, none⟩ = some u := fun j u hu => by
      have hj : j < n * 4 := by rw [← hl]; exact (List.getElem?_eq_some_iff.1 hu).1
      exact cell_keep ((ho.cellAt j hj).trans hu) hb
    refine ⟨⟨rows_one, .inr ⟨⟨g, 0, none⟩, c, by unfold sliced; simp [Addr.add], l1, fun j u hu => ?_⟩⟩, ⟨rows_one, .inr ?_⟩⟩
    · have hj := (List.getElem?_eq_some_iff.1 hu).1
      have q := cell j u (by rw [e, List.getElem?_append_left hj]; exact hu)
      rw [show (⟨g, 0, none⟩ : Addr).add j = ⟨g, j, none⟩ by unfold Addr.add; by_cases h : j = 0 <;> simp [h]]
      exact q
    · by_cases z : c = k
      · have z2 : n - k = 0 := by omega
        refine ⟨⟨g, 0, none⟩, c - k, by unfold sliced; rw [if_pos z], l2, fun j u hu => ?_⟩
        have hj := (List.getElem?_eq_some_iff.1 hu).1
        rw [l2, z2] at hj
        omega
      · refine ⟨(⟨g, 0, none⟩ : Addr).add (k * 4), c - k, by unfold sliced; rw [if_neg z]; rfl, l2, fun j u hu => ?_⟩
        have q := cell (k * 4 + j) u (by rw [e, List.getElem?_append_right (by rw [l1]; omega), l1, show k * 4 + j - k * 4 = j by omega]; exact hu)
        rw [add_add2]
        simpa using q
theorem packs_more {l : List Hd} {k : Nat} (hk : k < l.length) : packs (l.take (k + 1)) = if l[k].act = 1 then packs (l.take k) ++ [l[k].box] else packs (l.take k) := by
  rw [List.take_succ_eq_append_getElem hk, packs_snoc]
theorem packs_few {l : List Hd} (k : Nat) : (packs (l.take k)).length ≤ (packs l).length := by
  have e : packs l = packs (l.take k) ++ packs (l.drop k) := by
    unfold packs
    rw [← List.map_append, ← List.filter_append, List.take_append_drop]
  rw [e, List.length_append]
  omega
theorem packs_mem {l : List Hd} {k : Nat} (hk : k < l.length) (a : l[k].act = 1) : l[k].box ∈ packs l := by
  unfold packs
  exact List.mem_map.2 ⟨l[k], List.mem_filter.2 ⟨List.getElem_mem hk, by simp [a]⟩, rfl⟩
set_option maxHeartbeats 16000000 in
theorem boxes10 {l : List Hd} {w : World} {v : Value} (hl : HLs w v l) (hi : Inv1 l) (hn : l.length < 140737488355328) :
    Calls Try.prog 10 #[v] w fun e w' => (∃ v', e = .returned v' ∧ BL w' v' l (sn (packs l))) ∧ Below w.heap.size w w' := by
  obtain ⟨a0, c0, rfl, -⟩ := id hl
  have HL : Hid (HLs w (.slice a0 l.length c0) l) := hl
  have HN : Hid (Inv1 l ∧ l.length < 140737488355328) := ⟨hi, hn⟩
  have FEW : Hid (∀ k, (sn (packs (l.take k))).length ≤ 256) := fun k => by rw [(sn_perm _).length_eq]; exact Nat.le_trans (packs_few k) hi.few
  have HB14 : Hid (∀ V nm, Below w.heap.size w V → Calls Try.prog 14 #[.slice a0 l.length c0, .string nm] V fun e w' => e = .returned (BXV l nm) ∧ Below V.heap.size V w') := fun V nm hV => box14 (hl.of_below hV) hn
  clear hl hi
  go_enter Try.func10, Try.ntmps10
  go_wp2_with fail
  go_loopg [3, 13] l.length (fun gk v3 v13 wr => ∃ i : Nat, i + gk = l.length ∧ v13 = .int .i64 (i : Int) ∧ wr.ownsRow w.heap.size 38 4 v3 (sn (packs (l.take i))).length (rowsB l (sn (packs (l.take i)))) ∧ Below w.heap.size w wr)
  case atStart =>
    have e : sn (packs (l.take 0)) = [] := List.eq_nil_of_length_eq_zero (by rw [(sn_perm _).length_eq]; rfl)
    exact ⟨0, by omega, rfl, by rw [e]; exact World.ownsRow_nil _ _ _ _, Below.refl _ _⟩
  case round =>
    obtain ⟨i, hig, rfl, hO, hB⟩ := hrel
    have HB : Hid (Below w.heap.size w wr) := hB
    have O0 : Hid (wr.ownsRow w.heap.size 38 4 u3 (sn (packs (l.take i))).length (rowsB l (sn (packs (l.take i))))) := hO
    clear hO
    by_cases hlt : i < l.length
    · have il : (i : Int) < (l.length : Int) := by omega
      obtain ⟨a', c', e, q⟩ := HL.out.of_below hB
      cases e
      obtain ⟨b1, o1, rfl, p0, p1, p2, p3, p4, p5⟩ := q i hlt
      have PM : Hid (_ = _) := packs_more hlt
      have OK : Hid (l[i].act = 1 → (bx l l[i].box).ok = true) := fun a => (HN.out.1.mem _).1 (packs_mem hlt a)
      generalize l[i] = x at *
      have wl : Hid (wr.heap.size = wr.heap.size) := rfl
      have B2 : Hid (Below w.heap.size w (wr.alloc (.cells #[.int .i64 x.act, .string x.box, .string x.who, .string x.to_, .int .i64 x.cnt, .string x.sl] 26))) := HB.out.alloc HB.out.size _
      have O2 : Hid ((wr.alloc (.cells #[.int .i64 x.act, .string x.box, .string x.who, .string x.to_, .int .i64 x.cnt, .string x.sl] 26)).ownsRow w.heap.size 38 4 u3 (sn (packs (l.take i))).length (rowsB l (sn (packs (l.take i))))) := O0.out.alloc _
      clear q hB HB O0 wl
      by_cases a : x.act = 1
      · have OKX : Hid ((bx l x.box).ok = true) := OK.out a
        have PX : Hid (packs (l.take (i + 1)) = packs (l.take i) ++ [x.box]) := by have q := PM.out; rw [if_pos a] at q; exact q
        have ea : (x.act == 1) = true := by simp [a]
        clear a OK PM
        go_wp2_with (go_at_call 14; refine (HB14.out _ x.box B2.out).mono ?_)
        rintro e V ⟨rfl, hV⟩
        have B3 : Hid (Below w.heap.size w V) := B2.out.trans (hV.mono B2.out.size)
        have O3 : Hid (V.ownsRow w.heap.size 38 4 u3 (sn (packs (l.take i))).length (rowsB l (sn (packs (l.take i))))) := own_far O2.out (fun g hg => hV.block g (O2.out.lt g hg).2)
        clear hV B2 O2 p0 p1 p2 p3 p4 p5
        have EV : BXV l x.box = .tuple #[.agg #[.string x.box, .int .i64 (bx l x.box).count, .string (bx l x.box).holder, .string (bx l x.box).sl], .string (bx l x.box).under, .bool (bx l x.box).opn, .bool (bx l x.box).ok] := by
          unfold BXV cellsB nmR
          rw [if_pos OKX.out]
        rw [EV]
        clear EV
        have EN : Hid (encB l x.box = [.string x.box, .int .i64 (bx l x.box).count, .string (bx l x.box).holder, .string (bx l x.box).sl]) := rfl
        generalize (bx l x.box).count = y1 at *
        generalize (bx l x.box).holder = y2 at *
        generalize (bx l x.box).sl = y3 at *
        generalize x.box = nm at *
        have B4 : Hid (Below w.heap.size w (V.alloc (.cells #[.string nm, .int .i64 y1, .string y2, .string y3] 38))) := B3.out.alloc B3.out.size _
        have O4 : Hid ((V.alloc (.cells #[.string nm, .int .i64 y1, .string y2, .string y3] 38)).ownsRow w.heap.size 38 4 u3 (sn (packs (l.take i))).length (rowsB l (sn (packs (l.take i))))) := O3.out.alloc _
        have I4 : Hid (IHolds (V.alloc (.cells #[.string nm, .int .i64 y1, .string y2, .string y3] 38)) V.heap.size 38 [.string nm, .int .i64 y1, .string y2, .string y3]) := IHolds.new V 38 _
        clear B3 O3
        obtain ⟨ns, hns⟩ : ∃ ns, ns = sn (packs (l.take i)) := ⟨_, rfl⟩
        have NS : Hid (ns = sn (packs (l.take i))) := hns
        have n9 : Hid (ns.length ≤ 256) := by rw [hns]; exact FEW.out i
        rw [← hns] at O4
        clear hns
        obtain ⟨a3, c3, e3⟩ := own_form O4.out
        subst e3
        go_upto_block 2 with fail
        refine lk2_wp (bl_of_own O4.out) rfl n9.out (I4.out.cell 0 (by simp)) ?_
        intro y29 y30 y31 y32 y33 y34 y35 y36 y37 y38 y39 y40 y41 y42 y43 y44 k X hk hlow hhi hX
        have B5 : Hid (Below w.heap.size w X) := B4.out.trans (hX.mono B4.out.size)
        have O5 : Hid (X.ownsRow w.heap.size 38 4 (.slice a3 ns.length c3) ns.length (rowsB l ns)) := own_far O4.out (fun g hg => hX.block g (O4.out.lt g hg).2)
        have I5 : Hid (IHolds X V.heap.size 38 [.string nm, .int .i64 y1, .string y2, .string y3]) := I4.out.of_below hX
        have KK : Hid (k ≤ ns.length) := hk
        have PS : Hid (ns.take k ++ nm :: ns.drop k = sn (packs (l.take (i + 1)))) := by have q := put_sn NS.out hk hlow hhi; rw [← PX.out] at q; exact q
        have C5 : Hid (ns.length ≤ c3) := by
          obtain ⟨hl, ⟨e0, h0⟩ | ⟨g, cap, cur, e0, hbg, hg, hnc, hm, hs, ht⟩⟩ := O5.out
          · show _ ≤ _; omega
          · cases e0; exact hnc
        clear hX hk hlow hhi B4 O4 I4 NS PX
        go_wp2_with fail
        refine wp_region_noPanic ?_
        refine rg10_wp (m := ns.length - k) KK.out C5.out (by have := KK.out; omega) n9.out rfl rfl (fun V' hV' => (lr_parts O5.out rfl KK.out hV').1) (fun V' hV' => (lr_parts O5.out rfl KK.out hV').2) (I5.out.cell 0 (by simp)) (I5.out.cell 1 (by simp)) (I5.out.cell 2 (by simp)) (I5.out.cell 3 (by simp)) (fun _ _ _ _ h => h) ?_
        intro x45 x46 x47 x48 x49 x50 x51 x52 x53 x54 x55 x56 v' Y hY hYB
        refine NoPanic.normal ?_
        have B6 : Hid (Below w.heap.size w Y) := B5.out.trans (hYB.mono B5.out.size)
        have O6 : Hid (Y.ownsRow w.heap.size 38 4 v' (sn (packs (l.take (i + 1)))).length (rowsB l (sn (packs (l.take (i + 1)))))) := by
          have e1 : rowsB l (ns.take k ++ nm :: ns.drop k) = rowsB l (ns.take k) ++ [.string nm, .int .i64 y1, .string y2, .string y3] ++ rowsB l (ns.drop k) := by
            rw [rows_app, ← EN.out, List.append_assoc]
            rfl
          have e2 : (ns.take k ++ nm :: ns.drop k).length = k + 1 + (ns.length - k) := by have := KK.out; simp; omega
          rw [← PS.out, e1, e2]
          exact own_mono hY B5.out.size
        clear hY hYB B5 O5 I5 PS C5 KK n9
        try dsimp only
        go_wp2_with fail
        go_roundg (gk - 1)
        case measure => omega
        case rel => exact ⟨i + 1, by omega, by go_num, O6.out, B6.out⟩
      · have PX : packs (l.take (i + 1)) = packs (l.take i) := by have q := PM.out; rw [if_neg a] at q; exact q
        have ea : (x.act == 1) = false := by simp [a]
        rw [← PX] at O2
        clear a OK PM PX
        go_wp2_with fail
        go_roundg (gk - 1)
        case measure => omega
        case rel => exact ⟨i + 1, by omega, by go_num, O2.out, B2.out⟩
    · obtain rfl : i = l.length := by omega
      have OF : Hid (wr.ownsRow w.heap.size 38 4 u3 (sn (packs l)).length (rowsB l (sn (packs l)))) := by have q := O0.out; rw [List.take_length] at q; exact q
      clear hlt O0 hB
      go_wp2_with fail
      go_ret
      exact ⟨⟨_, rfl, bl_of_own OF.out⟩, HB.out⟩
end Go.Proofs.Ytafekaonmpkhiaa
