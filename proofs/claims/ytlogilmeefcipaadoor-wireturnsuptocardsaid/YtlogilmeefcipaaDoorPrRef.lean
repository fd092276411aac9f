/- The document's Depth, Size and Written, of nodes. -/
import Derived.Test.YtlogilmeefcipaaDoorPrMem
import Derived.Deep.RegionHeld
import Derived.Deep.RegionHeld3
set_option linter.unusedSimpArgs false
set_option linter.unusedVariables false
set_option maxRecDepth 100000
namespace Go.Proofs.YtlogilmeefcipaaDoor
open Go.RowKit Go.Deep Go.PlainAid

theorem y1 {α : Type} {xs : List α} {i : Nat} (h : i < xs.toArray.size) : xs.toArray[i] = xs[i]'(by simpa using h) := List.getElem_toArray h
theorem y2 {α : Type} (a : α) (l : List α) (i : Nat) (h : i + 1 < (a :: l).length) : (a :: l)[i + 1] = l[i]'(by simpa using h) := List.getElem_cons_succ a l i h
theorem y3 {α : Type} (a : α) (l : List α) (h : 0 < (a :: l).length) : (a :: l)[0] = a := List.getElem_cons_zero a l h
theorem y4 {α : Type} {l : List α} {i : Nat} {a : α} : l.toArray.setIfInBounds i a = (l.set i a).toArray := List.setIfInBounds_toArray _ _ _
theorem y5 {α : Type} {x : α} {l : List α} {a : α} : (x :: l).set 0 a = a :: l := List.set_cons_zero
theorem y6 {α : Type} {x : α} {l : List α} {n : Nat} {a : α} : (x :: l).set (n + 1) a = x :: l.set n a := List.set_cons_succ
theorem y7 {α : Type} {xs : Array α} : xs.toList.toArray = xs := Array.toArray_toList
theorem tk {P : Program} {md : Region.Mode} {ops : Array Oper} {Q : Exit → Act → World → Prop} {S : World → Prop} {i : Nat} {oi : Oper} {v : Value} {fuel : Nat} {listed : Array Bool} {a : Act} {w : World} (hi : ops[i]? = some oi)
    (hs : (Region.noSelect ops && (Region.free md ops listed i && (Region.ready md ops listed).contains i)) = true)
    (hQ : ∀ c a w, Q (.panic c) (a.put oi.dst v) w → Q (.panic c) a w) (hw : Region.wanted oi (yielded ops a.tmps) = true) (hy : ∀ w, S w → (execOp a.eval oi).run P w = .ok (.value v) w) (hS : S w)
    (h : wpAnyH P md ops Q S fuel (listed.setIfInBounds i true) (a.put oi.dst v) w) : wpAnyH P md ops Q S (fuel + 1) listed a w := by
  simp only [Bool.and_eq_true] at hs
  exact wpAnyH_take hi hs.1 hs.2.1 hs.2.2 hQ (Or.inl ⟨hw, hy⟩) hS h
theorem below_drew1 {w W : World} (h : Below w.heap.size w W) : Below w.heap.size w W.drew := h.trans ⟨rfl, rfl, rfl, Nat.le_refl _, fun _ _ => rfl⟩
theorem deps_take {l : List Gn} {i : Nat} (h : i < l.length) : deps (l.take (i + 1)) = max (deps (l.take i)) (deps [l[i]]) := by
  rw [List.take_succ_eq_append_getElem h, deps_append]
theorem deps_list (t : List UInt8) (l : List Gn) : deps [.mk false t l] = deps l + 1 := by rw [deps]; simp [deps]
theorem deps_leaf (t : List UInt8) (l : List Gn) : deps [.mk true t l] = 0 := by rw [deps]; simp [deps]
theorem deps_mem {l : List Gn} {i : Nat} (h : i < l.length) : deps [l[i]] ≤ bk l := Nat.le_trans (deps_le _) (bk_mem (List.getElem_mem h))
theorem deps_tk (l : List Gn) (i : Nat) : deps (l.take i) ≤ bk l := by
  have h := deps_le (l.take i)
  have e : bk (l.take i ++ l.drop i) = bk l := by rw [List.take_append_drop]
  rw [bk_append] at e
  omega
theorem depth_leaf (t : List UInt8) (adr : Option Addr) (cap : Nat) (ht : t.length ≤ 1048576) (w : World) :
    Calls Tryd.prog 11 #[.agg #[.bool true, S t, .slice adr 0 cap]] w fun e w2 => e = .returned (.int .i64 ((deps [.mk true t []] : Nat) : Int)) ∧ Below w.heap.size w w2 := by
  rw [deps_leaf]
  have J : Hid (Below w.heap.size w (w.alloc (.cells #[.bool true, S t, .slice adr 0 cap] 24))) := (Below.refl _ w).alloc (Nat.le_refl _) _
  go_enter Tryd.func11, Tryd.ntmps11
  go_wp2_with fail
  go_ret
  exact ⟨rfl, J.out⟩
set_option maxHeartbeats 2000000 in
theorem depth_list {w : World} (l : List Gn) (adr : Option Addr) (cap : Nat) (c1 c2 c3 : Nat → Value)
    (hc : ∀ i, i < l.length → ∃ b o, adr = some ⟨b, o, none⟩ ∧ b < w.heap.size ∧ w.cell? ⟨b, o + 3 * i, none⟩ = some (c1 i) ∧ w.cell? ⟨b, o + 3 * i + 1, none⟩ = some (c2 i) ∧ w.cell? ⟨b, o + 3 * i + 2, none⟩ = some (c3 i))
    (hf : ∀ i, i < l.length → ∃ ab bb ca cm cc, c1 i = .bool ab ∧ c2 i = .string bb ∧ c3 i = .slice ca cm cc)
    (ih : ∀ i (h : i < l.length), ∀ w', Below w.heap.size w w' → Calls Tryd.prog 11 #[.agg #[c1 i, c2 i, c3 i]] w' fun e w2 => e = .returned (.int .i64 ((deps [l[i]] : Nat) : Int)) ∧ Below w'.heap.size w' w2)
    (hk : bk l ≤ 1048576) (w' : World) (hw : Below w.heap.size w w') :
    Calls Tryd.prog 11 #[.agg #[.bool false, S [], .slice adr l.length cap]] w' fun e w2 => e = .returned (.int .i64 ((deps [.mk false [] l] : Nat) : Int)) ∧ Below w'.heap.size w' w2 := by
  have hl := len_bk l
  rw [deps_list]
  generalize hW : w'.alloc (.cells #[.bool false, S [], .slice adr l.length cap] 24) = W
  have I1 : IHolds W w'.heap.size 24 [.bool false, S [], .slice adr l.length cap] := by rw [← hW]; exact IHolds.new' w' 24 [.bool false, S [], .slice adr l.length cap] rfl
  have J : Below w'.heap.size w' W := by rw [← hW]; exact (Below.refl _ w').alloc (Nat.le_refl _) _
  have HC : Hid _ := hc
  have HF : Hid _ := hf
  have IH : Hid _ := ih
  clear hc hf ih
  have a0 : W.cell? ⟨w'.heap.size, 0, none⟩ = some (.bool false) := I1.cell 0 (by simp)
  have a1 : W.cell? ⟨w'.heap.size, 1, none⟩ = some (S []) := I1.cell 1 (by simp)
  have a2 : W.cell? ⟨w'.heap.size, 2, none⟩ = some (.slice adr l.length cap) := I1.cell 2 (by simp)
  go_enter Tryd.func11, Tryd.ntmps11
  go_wp2_with fail
  go_loopg [3, 5, 11] l.length (fun gk v3 v5 v11 wr => ∃ i : Nat, i + gk = l.length ∧ v3 = .int .i64 ((deps (l.take i) : Nat) : Int) ∧ v11 = .int .i64 (i : Int) ∧ Below W.heap.size W wr)
  case atStart => exact ⟨0, by omega, by simp [deps], rfl, Below.refl _ _⟩
  case round =>
    obtain ⟨i, hig, rfl, rfl, hB⟩ := hrel
    have B : Hid (Below W.heap.size W wr) := hB
    clear a0 a1 a2
    have JW : Hid (Below w.heap.size w wr) := hw.trans ((J.trans (hB.mono J.size)).mono hw.size)
    clear hB
    by_cases hi : i < l.length
    · obtain ⟨b, o, rfl, hb, x1, x2, x3⟩ := HC.out i hi
      obtain ⟨ab, bb, ca, cm, cc, e1, e2, e3⟩ := HF.out i hi
      have hcall := IH.out i hi
      rw [e1] at x1
      rw [e2] at x2
      rw [e3] at x3
      rw [e1, e2, e3] at hcall
      have x1' : wr.cell? ⟨b, o + i * 3, none⟩ = some (.bool ab) := by rw [Nat.mul_comm i 3]; exact (World.cell?_of_block (a := ⟨b, _, none⟩) (JW.out.block b hb)).trans x1
      have x2' : wr.cell? ⟨b, o + i * 3 + 1, none⟩ = some (.string bb) := by rw [Nat.mul_comm i 3]; exact (World.cell?_of_block (a := ⟨b, _, none⟩) (JW.out.block b hb)).trans x2
      have x3' : wr.cell? ⟨b, o + i * 3 + 2, none⟩ = some (.slice ca cm cc) := by rw [Nat.mul_comm i 3]; exact (World.cell?_of_block (a := ⟨b, _, none⟩) (JW.out.block b hb)).trans x3
      clear x1 x2 x3 hb e1 e2 e3
      have il : (i : Int) < (l.length : Int) := by omega
      have BA : Hid (Below w.heap.size w (wr.alloc (.cells #[.bool ab, .string bb, .slice ca cm cc] 24))) := JW.out.alloc JW.out.size _
      have BE : Hid (Below W.heap.size W (wr.alloc (.cells #[.bool ab, .string bb, .slice ca cm cc] 24))) := B.out.alloc B.out.size _
      have q1 := deps_take hi
      have q2 := deps_mem hi
      have q3 := deps_tk l i
      generalize deps [l[i]] = dn at *
      generalize deps (l.take i) = dp at *
      by_cases hd : (dp : Int) < (dn : Int)
      · go_wp2_with (first | (go_at_call 11; refine (hcall _ BA.out).mono ?_; rintro e w3 ⟨rfl, hB3⟩; have M3 : Hid (IHolds w3 wr.heap.size 24 [.bool ab, .string bb, .slice ca cm cc]) := (IHolds.new' wr 24 [.bool ab, .string bb, .slice ca cm cc] rfl).of_below hB3; have d0 : w3.cell? ⟨wr.heap.size, 0, none⟩ = some (.bool ab) := M3.out.cell 0 (by simp); have d1 : w3.cell? ⟨wr.heap.size, 1, none⟩ = some (.string bb) := M3.out.cell 1 (by simp); have d2 : w3.cell? ⟨wr.heap.size, 2, none⟩ = some (.slice ca cm cc) := M3.out.cell 2 (by simp); have B3 : Hid (Below w.heap.size w w3) := BA.out.trans (hB3.mono BA.out.size); have E3 : Hid (Below W.heap.size W w3) := BE.out.trans (hB3.mono BE.out.size); clear hB3 x1' x2' x3') | (go_at_call 11; refine (hcall _ B3.out).mono ?_; rintro e w4 ⟨rfl, hB4⟩))
        go_roundg (gk - 1)
        case measure => omega
        case rel => exact ⟨i + 1, by omega, by rw [q1, Nat.max_eq_right (by omega)], by go_num, E3.out.trans (hB4.mono E3.out.size)⟩
      · go_wp2_with (go_at_call 11; refine (hcall _ BA.out).mono ?_; rintro e w3 ⟨rfl, hB3⟩)
        go_roundg (gk - 1)
        case measure => omega
        case rel => exact ⟨i + 1, by omega, by rw [q1, Nat.max_eq_left (by omega)], by go_num, BE.out.trans (hB3.mono BE.out.size)⟩
    · have il : ¬ (i : Int) < (l.length : Int) := by omega
      have e : i = l.length := by omega
      have q3 := deps_tk l i
      have E2 : Hid (deps (l.take i) = deps l) := by show _ = _; rw [e, List.take_length]
      generalize deps (l.take i) = dp at *
      go_wp2_with fail
      go_ret
      exact ⟨by rw [← E2.out]; simp, J.trans (B.out.mono J.size)⟩
theorem depth_any {w : World} {n : Gn} {a b c : Value} (h : GAt w n a b c) : bk [n] ≤ 1048576 → goods [n] = true → ∀ w', Below w.heap.size w w' →
    Calls Tryd.prog 11 #[.agg #[a, b, c]] w' fun e w2 => e = .returned (.int .i64 ((deps [n] : Nat) : Int)) ∧ Below w'.heap.size w' w2 := by
  induction h with
  | mk lf t l adr cap c1 c2 c3 hc hn ih =>
    intro hk hg w' hw
    rw [bk] at hk
    cases lf with
    | true =>
      rw [goods_leaf] at hg
      obtain rfl : l = [] := by simpa using hg
      exact depth_leaf t adr cap (by omega) w'
    | false =>
      rw [goods_list] at hg
      simp only [Bool.and_eq_true] at hg
      obtain rfl : t = [] := by simpa using hg.1
      refine depth_list l adr cap c1 c2 c3 hc (fun i hi => (hn i hi).form) (fun i hi => ih i hi ?_ ?_) (by simp at hk; omega) w' hw
      · have := bk_mem (List.getElem_mem hi)
        simp at hk
        omega
      · cases hx : goods [l[i]] with
        | true => rfl
        | false => rw [goods_false hi hx] at hg; simp at hg
theorem wrts_take {l : List Gn} {i : Nat} (h : i < l.length) : wrts (l.take (i + 1)) = wrts (l.take i) ++ wrts [l[i]] := by
  rw [List.take_succ_eq_append_getElem h, wrts_append]
theorem wrts_list (t : List UInt8) (l : List Gn) : wrts [.mk false t l] = 40 :: wrts l ++ [41] := by rw [wrts]; simp [wrts]
theorem wrts_leaf (t : List UInt8) (l : List Gn) : wrts [.mk true t l] = txt t.length ++ 58 :: t := by rw [wrts]; simp [wrts]
theorem wrts_mem {l : List Gn} {i : Nat} (h : i < l.length) (hk : bk l ≤ 1048576) : (wrts [l[i]]).length ≤ 8388608 := by
  have h1 := bk_mem (List.getElem_mem h)
  have h2 := wrts_len [l[i]] (by omega)
  omega
theorem wrts_tk (l : List Gn) (i : Nat) (hk : bk l ≤ 1048576) : (wrts (l.take i)).length ≤ 8388608 := by
  have e : bk (l.take i ++ l.drop i) = bk l := by rw [List.take_append_drop]
  rw [bk_append] at e
  have h2 := wrts_len (l.take i) (by omega)
  omega
set_option maxHeartbeats 2000000 in
theorem sizeN_leaf (t : List UInt8) (adr : Option Addr) (cap : Nat) (ht : t.length ≤ 1048576) (w : World) :
    Calls Tryd.prog 12 #[.agg #[.bool true, S t, .slice adr 0 cap]] w fun e w2 => e = .returned (.int .i64 (((wrts [.mk true t []]).length : Nat) : Int)) ∧ Below w.heap.size w w2 := by
  rw [wrts_leaf]
  have hsz := size_S t
  have hT := T_size t.length
  have hx := txt_len t.length ht
  have CD : Hid (∀ W, Calls Tryd.prog 15 #[.int .i64 ((t.length : Nat) : Int)] W fun e w' => e = .returned (.string (T t.length)) ∧ Below W.heap.size W w') := fun W => digits_any t.length (by omega) W
  have J : Hid (Below w.heap.size w (w.alloc (.cells #[.bool true, S t, .slice adr 0 cap] 24))) := (Below.refl _ w).alloc (Nat.le_refl _) _
  have I1 : Hid (IHolds (w.alloc (.cells #[.bool true, S t, .slice adr 0 cap] 24)) w.heap.size 24 [.bool true, S t, .slice adr 0 cap]) := IHolds.new' w 24 [.bool true, S t, .slice adr 0 cap] rfl
  have eL : (((txt t.length ++ 58 :: t).length : Nat) : Int) = (((txt t.length).length : Nat) : Int) + 1 + ((t.length : Nat) : Int) := by simp; omega
  rw [eL]
  clear eL
  generalize T t.length = tx at *
  generalize (txt t.length).length = tn at *
  generalize t.length = ln at *
  go_enter Tryd.func12, Tryd.ntmps12
  go_wp2_with fail
  refine wp_region_held_drew (S := fun W => IHolds W w.heap.size 24 [.bool true, S t, .slice adr 0 cap]) (by kernel_rfl) I1.out (fun hH => ?_)
  replace J : Hid (Below w.heap.size w ((w.alloc (.cells #[.bool true, S t, .slice adr 0 cap] 24)).drew)) := below_drew1 J.out
  generalize (w.alloc (.cells #[.bool true, S t, .slice adr 0 cap] 24)).drew = U at *
  refine tk (i := 0) (v := (.pointer (some ⟨w.heap.size, 1, none⟩))) rfl (by kernel_rfl) (fun _ _ _ h => h) rfl ?_ hH ?_
  · intro W hS; go_simp
  simp only [Act.put, y1, y2, y3, y4, y5, y6, y7]
  refine tk (i := 1) (v := (S t)) rfl (by kernel_rfl) (fun _ _ _ h => h) rfl ?_ hH ?_
  · intro W hS; have k1 : W.cell? ⟨w.heap.size, 1, none⟩ = some (S t) := hS.cell 1 (by simp)
    go_simp
  simp only [Act.put, y1, y2, y3, y4, y5, y6, y7]
  refine tk (i := 2) (v := (.int .i64 (ln : Int))) rfl (by kernel_rfl) (fun _ _ _ h => h) rfl ?_ hH ?_
  · intro W hS; go_simp
  simp only [Act.put, y1, y2, y3, y4, y5, y6, y7]
  refine tk (i := 6) (v := (.pointer (some ⟨w.heap.size, 1, none⟩))) rfl (by kernel_rfl) (fun _ _ _ h => h) rfl ?_ hH ?_
  · intro W hS; go_simp
  simp only [Act.put, y1, y2, y3, y4, y5, y6, y7]
  refine tk (i := 7) (v := (S t)) rfl (by kernel_rfl) (fun _ _ _ h => h) rfl ?_ hH ?_
  · intro W hS; have k1 : W.cell? ⟨w.heap.size, 1, none⟩ = some (S t) := hS.cell 1 (by simp)
    go_simp
  simp only [Act.put, y1, y2, y3, y4, y5, y6, y7]
  refine tk (i := 8) (v := (.int .i64 (ln : Int))) rfl (by kernel_rfl) (fun _ _ _ h => h) rfl ?_ hH ?_
  · intro W hS; go_simp
  simp only [Act.put, y1, y2, y3, y4, y5, y6, y7]
  refine wpAnyH_ready (rs := [3]) (by kernel_rfl) (by simp) ?_
  refine AllReadyH.cons rfl (fun K hK => ?_) AllReadyH.nil
  go_simp
  refine (CD.out U).mono ?_
  rintro e U2 ⟨rfl, hb⟩
  have J2 : Hid (Below w.heap.size w U2) := J.out.trans (hb.mono J.out.size)
  have H2 : IHolds U2 w.heap.size 24 [.bool true, S t, .slice adr 0 cap] := hH.of_below hb
  clear hb hH
  go_wp2_with fail
  refine hK.out _ _ H2 (fun hH => ?_)
  clear hK K
  try simp only [Act.put, y1, y2, y3, y4, y5, y6, y7]
  refine tk (i := 4) (v := (.int .i64 (tn : Int))) rfl (by kernel_rfl) (fun _ _ _ h => h) rfl ?_ hH ?_
  · intro W hS; go_simp
  simp only [Act.put, y1, y2, y3, y4, y5, y6, y7]
  refine tk (i := 5) (v := (.int .i64 ((tn : Int) + 1))) rfl (by kernel_rfl) (fun _ _ _ h => h) rfl ?_ hH ?_
  · intro W hS; go_simp <;> first | omega | exact IntWalk.i64_in _ ⟨by omega, by omega⟩
  simp only [Act.put, y1, y2, y3, y4, y5, y6, y7]
  refine tk (i := 9) (v := (.int .i64 ((tn : Int) + 1 + (ln : Int)))) rfl (by kernel_rfl) (fun _ _ _ h => h) rfl ?_ hH ?_
  · intro W hS; go_simp <;> first | omega | exact IntWalk.i64_in _ ⟨by omega, by omega⟩
  simp only [Act.put, y1, y2, y3, y4, y5, y6, y7]
  refine tk (i := 10) (v := (.int .i64 ((tn : Int) + 1 + (ln : Int)))) rfl (by kernel_rfl) (fun _ _ _ h => h) rfl ?_ hH ?_
  · intro W hS; go_simp
  simp only [Act.put, y1, y2, y3, y4, y5, y6, y7]
  refine wpAnyH_done (by kernel_rfl) ?_ _
  go_wp2_with fail
  go_ret
  exact ⟨rfl, J2.out⟩
set_option maxHeartbeats 2000000 in
theorem sizeN_list {w : World} (l : List Gn) (adr : Option Addr) (cap : Nat) (c1 c2 c3 : Nat → Value)
    (hc : ∀ i, i < l.length → ∃ b o, adr = some ⟨b, o, none⟩ ∧ b < w.heap.size ∧ w.cell? ⟨b, o + 3 * i, none⟩ = some (c1 i) ∧ w.cell? ⟨b, o + 3 * i + 1, none⟩ = some (c2 i) ∧ w.cell? ⟨b, o + 3 * i + 2, none⟩ = some (c3 i))
    (hf : ∀ i, i < l.length → ∃ ab bb ca cm cc, c1 i = .bool ab ∧ c2 i = .string bb ∧ c3 i = .slice ca cm cc)
    (ih : ∀ i (h : i < l.length), ∀ w', Below w.heap.size w w' → Calls Tryd.prog 12 #[.agg #[c1 i, c2 i, c3 i]] w' fun e w2 => e = .returned (.int .i64 (((wrts [l[i]]).length : Nat) : Int)) ∧ Below w'.heap.size w' w2)
    (hk : bk l ≤ 1048576) (w' : World) (hw : Below w.heap.size w w') :
    Calls Tryd.prog 12 #[.agg #[.bool false, S [], .slice adr l.length cap]] w' fun e w2 => e = .returned (.int .i64 (((wrts [.mk false [] l]).length : Nat) : Int)) ∧ Below w'.heap.size w' w2 := by
  have hl := len_bk l
  rw [wrts_list]
  generalize hW : w'.alloc (.cells #[.bool false, S [], .slice adr l.length cap] 24) = W
  have I1 : IHolds W w'.heap.size 24 [.bool false, S [], .slice adr l.length cap] := by rw [← hW]; exact IHolds.new' w' 24 [.bool false, S [], .slice adr l.length cap] rfl
  have J : Below w'.heap.size w' W := by rw [← hW]; exact (Below.refl _ w').alloc (Nat.le_refl _) _
  have HC : Hid _ := hc
  have HF : Hid _ := hf
  have IH : Hid _ := ih
  clear hc hf ih
  have a0 : W.cell? ⟨w'.heap.size, 0, none⟩ = some (.bool false) := I1.cell 0 (by simp)
  have a1 : W.cell? ⟨w'.heap.size, 1, none⟩ = some (S []) := I1.cell 1 (by simp)
  have a2 : W.cell? ⟨w'.heap.size, 2, none⟩ = some (.slice adr l.length cap) := I1.cell 2 (by simp)
  go_enter Tryd.func12, Tryd.ntmps12
  go_wp2_with fail
  go_loopg [3, 5, 21] l.length (fun gk v3 v5 v21 wr => ∃ i : Nat, i + gk = l.length ∧ v3 = .int .i64 (((2 + (wrts (l.take i)).length : Nat)) : Int) ∧ v21 = .int .i64 (i : Int) ∧ Below W.heap.size W wr)
  case atStart => exact ⟨0, by omega, by simp [wrts], rfl, Below.refl _ _⟩
  case round =>
    obtain ⟨i, hig, rfl, rfl, hB⟩ := hrel
    have B : Hid (Below W.heap.size W wr) := hB
    clear a0 a1 a2
    have JW : Hid (Below w.heap.size w wr) := hw.trans ((J.trans (hB.mono J.size)).mono hw.size)
    clear hB
    by_cases hi : i < l.length
    · obtain ⟨b, o, rfl, hb, x1, x2, x3⟩ := HC.out i hi
      obtain ⟨ab, bb, ca, cm, cc, e1, e2, e3⟩ := HF.out i hi
      have hcall := IH.out i hi
      rw [e1] at x1
      rw [e2] at x2
      rw [e3] at x3
      rw [e1, e2, e3] at hcall
      have x1' : wr.cell? ⟨b, o + i * 3, none⟩ = some (.bool ab) := by rw [Nat.mul_comm i 3]; exact (World.cell?_of_block (a := ⟨b, _, none⟩) (JW.out.block b hb)).trans x1
      have x2' : wr.cell? ⟨b, o + i * 3 + 1, none⟩ = some (.string bb) := by rw [Nat.mul_comm i 3]; exact (World.cell?_of_block (a := ⟨b, _, none⟩) (JW.out.block b hb)).trans x2
      have x3' : wr.cell? ⟨b, o + i * 3 + 2, none⟩ = some (.slice ca cm cc) := by rw [Nat.mul_comm i 3]; exact (World.cell?_of_block (a := ⟨b, _, none⟩) (JW.out.block b hb)).trans x3
      clear x1 x2 x3 hb e1 e2 e3
      have il : (i : Int) < (l.length : Int) := by omega
      have BA : Hid (Below w.heap.size w (wr.alloc (.cells #[.bool ab, .string bb, .slice ca cm cc] 24))) := JW.out.alloc JW.out.size _
      have BE : Hid (Below W.heap.size W (wr.alloc (.cells #[.bool ab, .string bb, .slice ca cm cc] 24))) := B.out.alloc B.out.size _
      have q1 : (wrts (l.take (i + 1))).length = (wrts (l.take i)).length + (wrts [l[i]]).length := by rw [wrts_take hi, List.length_append]
      have q2 := wrts_mem hi hk
      have q3 := wrts_tk l i hk
      generalize (wrts [l[i]]).length = dn at *
      generalize (wrts (l.take i)).length = dp at *
      go_wp2_with (go_at_call 12; refine (hcall _ BA.out).mono ?_; rintro e w3 ⟨rfl, hB3⟩)
      go_roundg (gk - 1)
      case measure => omega
      case rel => exact ⟨i + 1, by omega, by rw [q1]; go_num, by go_num, BE.out.trans (hB3.mono BE.out.size)⟩
    · have il : ¬ (i : Int) < (l.length : Int) := by omega
      have q3 := wrts_tk l i hk
      have E2 : Hid ((wrts (l.take i)).length = (wrts l).length) := by show _ = _; rw [show i = l.length by omega, List.take_length]
      generalize (wrts (l.take i)).length = dp at *
      go_wp2_with fail
      go_ret
      refine ⟨?_, J.trans (B.out.mono J.size)⟩
      rw [← E2.out]
      simp
      omega
theorem sizeN_any {w : World} {n : Gn} {a b c : Value} (h : GAt w n a b c) : bk [n] ≤ 1048576 → goods [n] = true → ∀ w', Below w.heap.size w w' →
    Calls Tryd.prog 12 #[.agg #[a, b, c]] w' fun e w2 => e = .returned (.int .i64 (((wrts [n]).length : Nat) : Int)) ∧ Below w'.heap.size w' w2 := by
  induction h with
  | mk lf t l adr cap c1 c2 c3 hc hn ih =>
    intro hk hg w' hw
    rw [bk] at hk
    cases lf with
    | true =>
      rw [goods_leaf] at hg
      obtain rfl : l = [] := by simpa using hg
      exact sizeN_leaf t adr cap (by omega) w'
    | false =>
      rw [goods_list] at hg
      simp only [Bool.and_eq_true] at hg
      obtain rfl : t = [] := by simpa using hg.1
      refine sizeN_list l adr cap c1 c2 c3 hc (fun i hi => (hn i hi).form) (fun i hi => ih i hi ?_ ?_) (by simp at hk; omega) w' hw
      · have := bk_mem (List.getElem_mem hi)
        simp at hk
        omega
      · cases hx : goods [l[i]] with
        | true => rfl
        | false => rw [goods_false hi hx] at hg; simp at hg
theorem S_append (a b : List UInt8) : (⟨a.toArray⟩ : ByteArray) ++ ⟨b.toArray⟩ = ⟨(a ++ b).toArray⟩ := by
  apply ByteArray.ext
  simp [ByteArray.data_append]
set_option maxHeartbeats 2000000 in
theorem written_leaf (t : List UInt8) (adr : Option Addr) (cap : Nat) (ht : t.length ≤ 1048576) (w : World) :
    Calls Tryd.prog 17 #[.agg #[.bool true, S t, .slice adr 0 cap]] w fun e w2 => e = .returned (S (wrts [.mk true t []])) ∧ Below w.heap.size w w2 := by
  rw [wrts_leaf]
  have hsz := size_S t
  have hT := T_size t.length
  have hx := txt_len t.length ht
  have CD : Hid (∀ W, Calls Tryd.prog 15 #[.int .i64 ((t.length : Nat) : Int)] W fun e w' => e = .returned (.string (T t.length)) ∧ Below W.heap.size W w') := fun W => digits_any t.length (by omega) W
  have J : Hid (Below w.heap.size w (w.alloc (.cells #[.bool true, S t, .slice adr 0 cap] 24))) := (Below.refl _ w).alloc (Nat.le_refl _) _
  have I1 : Hid (IHolds (w.alloc (.cells #[.bool true, S t, .slice adr 0 cap] 24)) w.heap.size 24 [.bool true, S t, .slice adr 0 cap]) := IHolds.new' w 24 [.bool true, S t, .slice adr 0 cap] rfl
  have eL : Hid ((⟨(txt t.length ++ 58 :: t).toArray⟩ : ByteArray) = (T t.length ++ ⟨#[58]⟩) ++ ⟨t.toArray⟩) := by
    show _ = _
    have e1 : T t.length = ⟨(txt t.length).toArray⟩ := rfl
    rw [e1, show (⟨#[58]⟩ : ByteArray) = ⟨([58] : List UInt8).toArray⟩ from rfl, S_append, S_append]
    simp
  have zA : (T t.length ++ ⟨#[58]⟩).size = (T t.length).size + 1 := by rw [ByteArray.size_append]; rfl
  have hT9 : (T t.length).size ≤ 7 := by omega
  have z1 : (⟨#[58]⟩ : ByteArray).size = 1 := rfl
  clear hT hx
  generalize T t.length = tx at *
  generalize t.length = ln at *
  go_enter Tryd.func17, Tryd.ntmps17
  go_wp2_with fail
  refine wp_region_held_drew (S := fun W => IHolds W w.heap.size 24 [.bool true, S t, .slice adr 0 cap]) (by kernel_rfl) I1.out (fun hH => ?_)
  replace J : Hid (Below w.heap.size w ((w.alloc (.cells #[.bool true, S t, .slice adr 0 cap] 24)).drew)) := below_drew1 J.out
  generalize (w.alloc (.cells #[.bool true, S t, .slice adr 0 cap] 24)).drew = U at *
  refine tk (i := 0) (v := (.pointer (some ⟨w.heap.size, 1, none⟩))) rfl (by kernel_rfl) (fun _ _ _ h => h) rfl ?_ hH ?_
  · intro W hS; go_simp
  simp only [Act.put, y1, y2, y3, y4, y5, y6, y7]
  refine tk (i := 1) (v := (S t)) rfl (by kernel_rfl) (fun _ _ _ h => h) rfl ?_ hH ?_
  · intro W hS; have k1 : W.cell? ⟨w.heap.size, 1, none⟩ = some (S t) := hS.cell 1 (by simp)
    go_simp
  simp only [Act.put, y1, y2, y3, y4, y5, y6, y7]
  refine tk (i := 2) (v := (.int .i64 (ln : Int))) rfl (by kernel_rfl) (fun _ _ _ h => h) rfl ?_ hH ?_
  · intro W hS; go_simp
  simp only [Act.put, y1, y2, y3, y4, y5, y6, y7]
  refine tk (i := 5) (v := (.pointer (some ⟨w.heap.size, 1, none⟩))) rfl (by kernel_rfl) (fun _ _ _ h => h) rfl ?_ hH ?_
  · intro W hS; go_simp
  simp only [Act.put, y1, y2, y3, y4, y5, y6, y7]
  refine tk (i := 6) (v := (S t)) rfl (by kernel_rfl) (fun _ _ _ h => h) rfl ?_ hH ?_
  · intro W hS; have k1 : W.cell? ⟨w.heap.size, 1, none⟩ = some (S t) := hS.cell 1 (by simp)
    go_simp
  simp only [Act.put, y1, y2, y3, y4, y5, y6, y7]
  refine wpAnyH_ready (rs := [3]) (by kernel_rfl) (by simp) ?_
  refine AllReadyH.cons rfl (fun K hK => ?_) AllReadyH.nil
  go_simp
  refine (CD.out U).mono ?_
  rintro e U2 ⟨rfl, hb⟩
  have J2 : Hid (Below w.heap.size w U2) := J.out.trans (hb.mono J.out.size)
  have H2 : IHolds U2 w.heap.size 24 [.bool true, S t, .slice adr 0 cap] := hH.of_below hb
  clear hb hH
  go_wp2_with fail
  refine hK.out _ _ H2 (fun hH => ?_)
  clear hK K
  try simp only [Act.put, y1, y2, y3, y4, y5, y6, y7]
  refine tk (i := 4) (v := (.string (tx ++ ⟨#[58]⟩))) rfl (by kernel_rfl) (fun _ _ _ h => h) rfl ?_ hH ?_
  · intro W hS; go_simp <;> first | omega | exact IntWalk.i64_in _ ⟨by omega, by omega⟩
  simp only [Act.put, y1, y2, y3, y4, y5, y6, y7]
  refine tk (i := 7) (v := (.string ((tx ++ ⟨#[58]⟩) ++ ⟨t.toArray⟩))) rfl (by kernel_rfl) (fun _ _ _ h => h) rfl ?_ hH ?_
  · intro W hS; go_simp <;> first | omega | exact IntWalk.i64_in _ ⟨by omega, by omega⟩
  simp only [Act.put, y1, y2, y3, y4, y5, y6, y7]
  refine tk (i := 8) (v := (.string ((tx ++ ⟨#[58]⟩) ++ ⟨t.toArray⟩))) rfl (by kernel_rfl) (fun _ _ _ h => h) rfl ?_ hH ?_
  · intro W hS; go_simp
  simp only [Act.put, y1, y2, y3, y4, y5, y6, y7]
  refine wpAnyH_done (by kernel_rfl) ?_ _
  go_wp2_with fail
  go_ret
  refine ⟨?_, J2.out⟩
  show Ending.returned (.string _) = .returned (.string _)
  rw [eL.out]
set_option maxHeartbeats 2000000 in
theorem written_list {w : World} (l : List Gn) (adr : Option Addr) (cap : Nat) (c1 c2 c3 : Nat → Value)
    (hc : ∀ i, i < l.length → ∃ b o, adr = some ⟨b, o, none⟩ ∧ b < w.heap.size ∧ w.cell? ⟨b, o + 3 * i, none⟩ = some (c1 i) ∧ w.cell? ⟨b, o + 3 * i + 1, none⟩ = some (c2 i) ∧ w.cell? ⟨b, o + 3 * i + 2, none⟩ = some (c3 i))
    (hf : ∀ i, i < l.length → ∃ ab bb ca cm cc, c1 i = .bool ab ∧ c2 i = .string bb ∧ c3 i = .slice ca cm cc)
    (ih : ∀ i (h : i < l.length), ∀ w', Below w.heap.size w w' → Calls Tryd.prog 17 #[.agg #[c1 i, c2 i, c3 i]] w' fun e w2 => e = .returned (S (wrts [l[i]])) ∧ Below w'.heap.size w' w2)
    (hk : bk l ≤ 1048576) (w' : World) (hw : Below w.heap.size w w') :
    Calls Tryd.prog 17 #[.agg #[.bool false, S [], .slice adr l.length cap]] w' fun e w2 => e = .returned (S (wrts [.mk false [] l])) ∧ Below w'.heap.size w' w2 := by
  have hl := len_bk l
  rw [wrts_list]
  generalize hW : w'.alloc (.cells #[.bool false, S [], .slice adr l.length cap] 24) = W
  have I1 : IHolds W w'.heap.size 24 [.bool false, S [], .slice adr l.length cap] := by rw [← hW]; exact IHolds.new' w' 24 [.bool false, S [], .slice adr l.length cap] rfl
  have J : Below w'.heap.size w' W := by rw [← hW]; exact (Below.refl _ w').alloc (Nat.le_refl _) _
  have HC : Hid _ := hc
  have HF : Hid _ := hf
  have IH : Hid _ := ih
  clear hc hf ih
  have a0 : W.cell? ⟨w'.heap.size, 0, none⟩ = some (.bool false) := I1.cell 0 (by simp)
  have a1 : W.cell? ⟨w'.heap.size, 1, none⟩ = some (S []) := I1.cell 1 (by simp)
  have a2 : W.cell? ⟨w'.heap.size, 2, none⟩ = some (.slice adr l.length cap) := I1.cell 2 (by simp)
  go_enter Tryd.func17, Tryd.ntmps17
  go_wp2_with fail
  go_loopg [3, 5, 19] l.length (fun gk v3 v5 v19 wr => ∃ i : Nat, i + gk = l.length ∧ v3 = S (40 :: wrts (l.take i)) ∧ v19 = .int .i64 (i : Int) ∧ Below W.heap.size W wr)
  case atStart => exact ⟨0, by omega, by simp [wrts], rfl, Below.refl _ _⟩
  case round =>
    obtain ⟨i, hig, rfl, rfl, hB⟩ := hrel
    have B : Hid (Below W.heap.size W wr) := hB
    clear a0 a1 a2
    have JW : Hid (Below w.heap.size w wr) := hw.trans ((J.trans (hB.mono J.size)).mono hw.size)
    clear hB
    by_cases hi : i < l.length
    · obtain ⟨b, o, rfl, hb, x1, x2, x3⟩ := HC.out i hi
      obtain ⟨ab, bb, ca, cm, cc, e1, e2, e3⟩ := HF.out i hi
      have hcall := IH.out i hi
      rw [e1] at x1
      rw [e2] at x2
      rw [e3] at x3
      rw [e1, e2, e3] at hcall
      have x1' : wr.cell? ⟨b, o + i * 3, none⟩ = some (.bool ab) := by rw [Nat.mul_comm i 3]; exact (World.cell?_of_block (a := ⟨b, _, none⟩) (JW.out.block b hb)).trans x1
      have x2' : wr.cell? ⟨b, o + i * 3 + 1, none⟩ = some (.string bb) := by rw [Nat.mul_comm i 3]; exact (World.cell?_of_block (a := ⟨b, _, none⟩) (JW.out.block b hb)).trans x2
      have x3' : wr.cell? ⟨b, o + i * 3 + 2, none⟩ = some (.slice ca cm cc) := by rw [Nat.mul_comm i 3]; exact (World.cell?_of_block (a := ⟨b, _, none⟩) (JW.out.block b hb)).trans x3
      clear x1 x2 x3 hb e1 e2 e3
      have il : (i : Int) < (l.length : Int) := by omega
      have BA : Hid (Below w.heap.size w (wr.alloc (.cells #[.bool ab, .string bb, .slice ca cm cc] 24))) := JW.out.alloc JW.out.size _
      have BE : Hid (Below W.heap.size W (wr.alloc (.cells #[.bool ab, .string bb, .slice ca cm cc] 24))) := B.out.alloc B.out.size _
      have q1 : S (40 :: wrts (l.take (i + 1))) = .string ((⟨(40 :: wrts (l.take i)).toArray⟩ : ByteArray) ++ ⟨(wrts [l[i]]).toArray⟩) := by rw [S_append, wrts_take hi]; rfl
      have q2 := wrts_mem hi hk
      have q3 := wrts_tk l i hk
      have s1 := size_S (40 :: wrts (l.take i))
      have s2 := size_S (wrts [l[i]])
      rw [List.length_cons] at s1
      generalize wrts [l[i]] = dn at *
      generalize wrts (l.take i) = dp at *
      generalize hX1 : (⟨(40 :: dp).toArray⟩ : ByteArray) = X1 at *
      generalize hX2 : (⟨dn.toArray⟩ : ByteArray) = X2 at *
      go_wp2_with (go_at_call 17; refine (hcall _ BA.out).mono ?_; rintro e w3 ⟨rfl, hB3⟩)
      go_roundg (gk - 1)
      case measure => omega
      case rel => exact ⟨i + 1, by omega, by rw [q1], by go_num, BE.out.trans (hB3.mono BE.out.size)⟩
    · have il : ¬ (i : Int) < (l.length : Int) := by omega
      have e : i = l.length := by omega
      have q3 := wrts_tk l i hk
      have s1 := size_S (40 :: wrts (l.take i))
      rw [List.length_cons] at s1
      have q1 : Hid (S (40 :: (wrts l ++ [41])) = .string ((⟨(40 :: wrts (l.take i)).toArray⟩ : ByteArray) ++ ⟨#[41]⟩)) := by
        show _ = _
        rw [show (⟨#[41]⟩ : ByteArray) = ⟨([41] : List UInt8).toArray⟩ from rfl, S_append, e, List.take_length]; rfl
      have z1 : (⟨#[41]⟩ : ByteArray).size = 1 := rfl
      clear e
      go_wp2_with fail
      go_ret
      exact ⟨by rw [q1.out]; rfl, J.trans (B.out.mono J.size)⟩
theorem written_any {w : World} {n : Gn} {a b c : Value} (h : GAt w n a b c) : bk [n] ≤ 1048576 → goods [n] = true → ∀ w', Below w.heap.size w w' →
    Calls Tryd.prog 17 #[.agg #[a, b, c]] w' fun e w2 => e = .returned (S (wrts [n])) ∧ Below w'.heap.size w' w2 := by
  induction h with
  | mk lf t l adr cap c1 c2 c3 hc hn ih =>
    intro hk hg w' hw
    rw [bk] at hk
    cases lf with
    | true =>
      rw [goods_leaf] at hg
      obtain rfl : l = [] := by simpa using hg
      exact written_leaf t adr cap (by omega) w'
    | false =>
      rw [goods_list] at hg
      simp only [Bool.and_eq_true] at hg
      obtain rfl : t = [] := by simpa using hg.1
      refine written_list l adr cap c1 c2 c3 hc (fun i hi => (hn i hi).form) (fun i hi => ih i hi ?_ ?_) (by simp at hk; omega) w' hw
      · have := bk_mem (List.getElem_mem hi)
        simp at hk
        omega
      · cases hx : goods [l[i]] with
        | true => rfl
        | false => rw [goods_false hi hx] at hg; simp at hg
end Go.Proofs.YtlogilmeefcipaaDoor
