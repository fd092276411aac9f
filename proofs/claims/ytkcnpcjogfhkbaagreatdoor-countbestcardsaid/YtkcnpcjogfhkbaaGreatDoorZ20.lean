/- The least set with one option in it. -/
import Derived.Test.YtkcnpcjogfhkbaaGreatDoorZ19
set_option linter.unusedSimpArgs false
set_option linter.unusedVariables false
set_option maxRecDepth 100000
namespace Go.Proofs.YtkcnpcjogfhkbaaGreatDoor
open Go.RowKit Go.Deep Go.PlainAid

theorem wpList_append_at {P : Program} {w w' : World} {ops : Array Oper} {rest : List Oper} {o : Oper} {a : Act} {Q : Exit → Act → World → Prop} (hgd : o.guard = none) (s x : Operand) (t : TypeId)
    (ho : o.op = .call { callee := .builtin .append, args := #[s, x], argTypes := #[t, t] }) (v v' y : Value) (hs : a.eval s = v) (hx : a.eval x = y) (hr : (Builtin.append_ #[t, t] o.type #[v, y]).run P w = .ok v' w')
    (h : wpList P ops Q rest (a.put o.dst v') w') : wpList P ops Q (o :: rest) a w :=
  wpList_plain hgd fun _ hK => by
    unfold Oper.wp execOp
    simp only [ho, resolve, invoke, builtin, Sem.run_bind, Sem.run_pure, Result.andThen_ok, List.map_toArray, List.map_cons, List.map_nil, hs, hx, hr]
    exact hK _ _ h
theorem zi_snoc (l : List Nat) (x : Nat) : zi (l ++ [x]) = zi l ++ [(x : Int)] := by simp [zi]
theorem lst_succ (n : Nat) (f : Nat → Bool) : lst (n + 1) f = if f n = true then lst n f ++ [n] else lst n f := by
  unfold lst
  rw [List.range_succ, List.filter_append]
  cases h : f n <;> simp [h]
/-- What a set of these is worth. -/
structure WT (P : Mt) (n first : Nat) (f : Nat → Bool) : Prop where
  one : f first = true
  dom : Dom P n f
  min : ∀ g, Dom P n g → g first = true → ∀ x, x < n → f x = true → g x = true
/-- What lies there while the queue is worked off. -/
structure QS (w : World) (B Bi n : Nat) (P : Mt) (first : Nat) (V : World) (f : Nat → Bool) (Q : List Nat) (g o cap : Nat) : Prop where
  st : ST P n first f Q
  qu : QU B V g o cap (zi Q)
  ih : IHolds V Bi 4 (bo n f)
  bl : Below w.heap.size w V
  sz : B ≤ V.heap.size
  lt : w.heap.size ≤ Bi ∧ Bi < B
theorem QS.of_below {w V V' : World} {B Bi n first g o cap : Nat} {P : Mt} {f : Nat → Bool} {Q : List Nat} (h : QS w B Bi n P first V f Q g o cap) (hb : Below V.heap.size V V') : QS w B Bi n P first V' f Q g o cap :=
  ⟨h.st, h.qu.keep (hb.block _ h.qu.lt), h.ih.of_below hb, h.bl.trans (hb.mono h.bl.size), Nat.le_trans h.sz hb.size, h.lt⟩
/-- One more comes in. -/
theorem QS.add {w V : World} {B Bi n first g o cap q j : Nat} {P : Mt} {f : Nat → Bool} {Q : List Nat} (h : QS w B Bi n P first V f Q g o cap) (hq : q ∈ Q) (hj : j < n) (hb : ¬ P j q < P q j) (h9 : Q.length ≤ 4000) :
    ∃ g' o' cap' V', (Builtin.append_ #[26, 26] 26 #[.slice (some ⟨g, o, none⟩) Q.length cap, .slice (some ⟨V.heap.size, 0, none⟩) 1 1]).run Tryz.prog ((V.setCell ⟨Bi, j, none⟩ (.bool true)).alloc (.cells #[.int .i64 (j : Int)] 3)) = .ok (.slice (some ⟨g', o', none⟩) (Q.length + 1) cap') V' ∧
      QS w B Bi n P first V' (ups f j) (Q ++ [j]) g' o' cap' := by
  have hg : g ≠ Bi := by have := h.qu.ge; have := h.lt; omega
  have i1 : IHolds (V.setCell ⟨Bi, j, none⟩ (.bool true)) Bi 4 (bo n (ups f j)) := by have z := h.ih.set j (.bool true); rw [bo_set] at z; exact z
  have q1 : QU B (V.setCell ⟨Bi, j, none⟩ (.bool true)) g o cap (zi Q) := h.qu.keep (Below.heap_setCell _ _ _ _ hg)
  have b1 : Below w.heap.size w (V.setCell ⟨Bi, j, none⟩ (.bool true)) := h.bl.setCell h.lt.1 _
  have s1 : B ≤ (V.setCell ⟨Bi, j, none⟩ (.bool true)).heap.size := by simpa [World.setCell] using h.sz
  have ez : (V.setCell ⟨Bi, j, none⟩ (.bool true)).heap.size = V.heap.size := by simp [World.setCell]
  rw [← ez]
  generalize V.setCell ⟨Bi, j, none⟩ (.bool true) = X at *
  have bx : Below X.heap.size X (X.alloc (.cells #[.int .i64 (j : Int)] 3)) := (Below.refl _ _).alloc (Nat.le_refl _) _
  obtain ⟨g', o', cap', V', hr, hq2, hgr⟩ := QU.app (q1.keep (bx.block _ q1.lt)) (Nat.le_trans s1 bx.size) (G := X.heap.size) (x := (j : Int)) (by simp) (by rw [zi_len]; exact h9) 31
  rw [zi_len] at hr
  refine ⟨g', o', cap', V', hr, h.st.add hq hj hb, by rw [zi_snoc]; exact hq2, ?_, ?_, Nat.le_trans s1 (Nat.le_trans bx.size hgr.size), h.lt⟩
  · have z := i1.of_below bx
    unfold IHolds at z ⊢
    rw [hgr.block Bi (IHolds.lt z) (by simp; omega)]
    exact z
  · exact (b1.trans (bx.mono b1.size)).grown hgr (b1.trans (bx.mono b1.size)).size (fun k hk => by simp [Value.ownBlock] at hk; have := h.qu.ge; have := h.lt; omega)
set_option maxHeartbeats 8000000 in
theorem setWith31 {w : World} {a : Option Addr} {n c first : Nat} {P : Mt} (hn : n ≤ 12) (hs : SQ w a n P) (hi : first < n) :
    Calls Tryz.prog 29 #[.slice a n c, .int .i64 (first : Int)] w fun e w' => (∃ v f, e = .returned v ∧ WT P n first f ∧ LS w' v (zi (lst n f))) ∧ Below w.heap.size w w' := by
  obtain ⟨i0, hi0, hz0, hz1, hz2⟩ := infoI
  have HS : Hid (∀ V, Below w.heap.size w V → SQ V a n P) := fun V hV => hs.of_below hV
  have M := make63 n (by omega) w
  have il : (first : Int) < (n : Int) := by omega
  have Z0 : Hid (QS w (w.heap.size + 1) w.heap.size n P first (((w.alloc (.cells (bo n (fun _ => false)).toArray 4)).setCell ⟨w.heap.size, first, none⟩ (.bool true)).alloc (.cells #[.int .i64 (first : Int)] 3)) (ups (fun _ => false) first) [first] (w.heap.size + 1) 0 1) := by
    have i1 : IHolds ((w.alloc (.cells (bo n (fun _ => false)).toArray 4)).setCell ⟨w.heap.size, first, none⟩ (.bool true)) w.heap.size 4 (bo n (ups (fun _ => false) first)) := by
      have z := (IHolds.new w 4 (bo n (fun _ => false))).set first (.bool true)
      rw [bo_set] at z; exact z
    have b1 : Below w.heap.size w ((w.alloc (.cells (bo n (fun _ => false)).toArray 4)).setCell ⟨w.heap.size, first, none⟩ (.bool true)) := ((Below.refl _ _).alloc (Nat.le_refl _) _).setCell (Nat.le_refl _) _
    have s1 : ((w.alloc (.cells (bo n (fun _ => false)).toArray 4)).setCell ⟨w.heap.size, first, none⟩ (.bool true)).heap.size = w.heap.size + 1 := by simp [World.setCell]
    generalize (w.alloc (.cells (bo n (fun _ => false)).toArray 4)).setCell ⟨w.heap.size, first, none⟩ (.bool true) = X at *
    have bx : Below X.heap.size X (X.alloc (.cells #[.int .i64 (first : Int)] 3)) := (Below.refl _ _).alloc (Nat.le_refl _) _
    refine ⟨ST.start P hi, ⟨Nat.le_refl _, ⟨#[.int .i64 (first : Int)], ?_, by simp, fun j hj => ?_⟩, by simp [zi], by unfold maxLen; omega⟩, i1.of_below bx, b1.trans (bx.mono b1.size), by simp; omega, by omega⟩
    · have z := IHolds.new X 3 [.int .i64 (first : Int)]
      rw [s1] at z; exact z
    · match j, hj with | 0, _ => simp [zi]
  have cc := (IHolds.new w 4 (bo n (fun _ => false))).cell first (by rw [bo_len]; exact hi)
  have fz := (IHolds.new w 4 (bo n (fun _ => false))).frozen first
  have SZ : Hid (((w.alloc (.cells (bo n (fun _ => false)).toArray 4)).setCell ⟨w.heap.size, first, none⟩ (.bool true)).heap.size = w.heap.size + 1) := by show _ = _; simp [World.setCell]
  have SU : Hid ((w.alloc (.cells (bo n (fun _ => false)).toArray 4)).heap.size = w.heap.size + 1) := by show _ = _; simp
  generalize (bo n (fun _ => false))[first]'(by rw [bo_len]; exact hi) = x0 at *
  clear hs
  generalize hU : w.alloc (.cells (bo n (fun _ => false)).toArray 4) = U0 at *
  go_enter Tryz.func29, Tryz.ntmps29
  go_wp2_with fail
  clear hU M cc fz
  generalize hX : U0.setCell ⟨w.heap.size, first, none⟩ (.bool true) = X0 at *
  clear hX
  first | rw [SZ.out] | rw [SU.out]
  generalize X0.alloc (.cells #[.int .i64 (first : Int)] 3) = U at *
  obtain ⟨Bi, hBi⟩ : ∃ B, B = w.heap.size := ⟨_, rfl⟩
  obtain ⟨B, hB⟩ : ∃ B, B = w.heap.size + 1 := ⟨_, rfl⟩
  have Z1 : Hid (QS w B Bi n P first U (ups (fun _ => false) first) [first] B 0 1) := by rw [hB, hBi]; exact Z0.out
  rw [← hB, ← hBi]
  clear hB hBi Z0 SZ SU
  have O1 : Hid (outN n (ups (fun _ => false) first) + [first].length ≤ 13) := by
    have z : outN n (ups (fun _ => false) first) ≤ n := by unfold outN; exact Nat.le_trans List.countP_le_length (by simp)
    show _ ≤ _; simp; omega
  go_loopg [6, 7] (outN n (ups (fun _ => false) first) + [first].length) (fun gk v6 v7 wr => ∃ (f : Nat → Bool) (Q : List Nat) (g o cap : Nat), gk = outN n f + Q.length ∧ gk ≤ 13 ∧ v6 = .slice (some ⟨g, o, none⟩) Q.length cap ∧ QS w B Bi n P first wr f Q g o cap)
  case atStart => exact ⟨_, _, _, _, _, rfl, O1.out, rfl, Z1.out⟩
  case round =>
    clear Z1 O1
    obtain ⟨f, Q, g, o, cap, hgk, hg13, rfl, hZ⟩ := hrel
    have Z : Hid (QS w B Bi n P first wr f Q g o cap) := hZ
    clear hZ
    cases Q with
    | nil =>
      have WW : Hid (WT P n first f) := ⟨Z.out.st.one, Z.out.st.dom, Z.out.st.min⟩
      have IH : Hid (IHolds wr Bi 4 (bo n f)) := Z.out.ih
      have BL : Hid (Below w.heap.size w wr) := Z.out.bl
      obtain ⟨U2, rfl⟩ : ∃ X, X = wr := ⟨wr, rfl⟩
      have S0 : Hid (OW U2 U2 (.slice none 0 0) (zi (lst 0 f))) := OW.nil U2
      clear Z hgk hg13
      simp only [List.length_nil]
      go_wp2_with fail
      go_loopg [8, 9, 10, 53] n (fun gk v8 v9 v10 v53 wr => ∃ (i : Nat) (v : Value), i + gk = n ∧ v53 = .int .i64 (i : Int) ∧ v = v8 ∧ OW U2 wr v (zi (lst i f)))
      case atStart => exact ⟨0, _, by omega, rfl, rfl, S0.out⟩
      case round =>
        clear S0
        obtain ⟨i, v, hig, rfl, rfl, hO⟩ := hrel
        have O3 : Hid (OW U2 wr v (zi (lst i f))) := hO
        clear hO
        by_cases hin : i < n
        · have ii : (i : Int) < (n : Int) := by omega
          have qc := (IH.out.of_below O3.out.bl).cell i (by rw [bo_len]; exact hin)
          rw [bo_at hin] at qc
          have LE : Hid ((lst i f).length ≤ 12) := by
            have : (lst i f).length ≤ (List.range i).length := List.length_filter_le _ _
            rw [List.length_range] at this
            show _ ≤ _; omega
          cases hf : f i with
          | true =>
            have EL : Hid (zi (lst (i + 1) f) = zi (lst i f) ++ [(i : Int)]) := by show _ = _; rw [lst_succ, if_pos hf, zi_snoc]
            rw [hf] at qc
            have O4 : Hid (OW U2 (wr.alloc (.cells #[.int .i64 (i : Int)] 3)) v (zi (lst i f))) := O3.out.alloc _
            have HC2 : Hid (IL (wr.alloc (.cells #[.int .i64 (i : Int)] 3)) (some ⟨wr.heap.size, 0, none⟩) [(i : Int)]) := IL.one _ _
            obtain ⟨v9, w9, hr, ho, _⟩ := O4.out.app (a := some ⟨wr.heap.size, 0, none⟩) (c := 1) (k := 1) (m := [(i : Int)]) rfl (fun e => by cases e) HC2.out (by rw [zi_len]; have := LE.out; omega) 31
            have HR : Hid ((Builtin.append_ #[26, 26] 26 #[v, .slice (some ⟨wr.heap.size, 0, none⟩) 1 1]).run Tryz.prog (wr.alloc (.cells #[.int .i64 (i : Int)] 3)) = .ok v9 w9) := hr
            have O5 : Hid (OW U2 w9 v9 (zi (lst (i + 1) f))) := by show OW _ _ _ _; rw [EL.out]; exact ho
            clear hf EL hr ho O4 HC2
            go_wp2_with (at_builtin; refine wpList_append_at rfl (.tmp 59) (.tmp 61) 26 rfl _ _ _ rfl rfl HR.out ?_)
            go_roundg (gk - 1)
            case measure => omega
            case rel => exact ⟨i + 1, v9, by omega, by go_num, rfl, O5.out⟩
          | false =>
            have EL : Hid (zi (lst (i + 1) f) = zi (lst i f)) := by show _ = _; rw [lst_succ, if_neg (by rw [hf]; simp)]
            rw [hf] at qc
            clear hf
            go_wp2_with fail
            go_roundg (gk - 1)
            case measure => omega
            case rel => exact ⟨i + 1, v, by omega, by go_num, rfl, by rw [EL.out]; exact O3.out⟩
        · have ii : ¬ (i : Int) < (n : Int) := by omega
          have e : i = n := by omega
          subst e
          have LZ := O3.out.ls
          go_wp2_with fail
          exact bodyPost_ret (v := v) (by simp [results, Tryz.results29, go_sem]) rfl ⟨⟨v, rfl, f, WW.out, LZ⟩, BL.out.trans (O3.out.bl.mono BL.out.size)⟩
    | cons q rest =>
      obtain ⟨G1, rfl⟩ : ∃ G, G = gk := ⟨gk, rfl⟩
      have GK : Hid (G1 = outN n f + (q :: rest).length ∧ G1 ≤ 13) := ⟨hgk, hg13⟩
      clear hgk hg13
      have m0 : (0 : Int) < (((q :: rest).length : Nat) : Int) := by simp only [List.length_cons]; omega
      obtain ⟨mq, hmq⟩ : ∃ m, m = (q :: rest).length := ⟨_, rfl⟩
      rw [← hmq] at m0 ⊢
      have HMQ : Hid (mq = (q :: rest).length) := hmq
      have m2 : 0 < mq := by rw [hmq]; simp
      have m3 : decide (0 < mq) = true := decide_eq_true m2
      have m4 : decide ((0 : Int) < (mq : Int)) = true := decide_eq_true m0
      clear hmq
      go_wp2_with fail
      clear m0 m2 m3 m4
      go_loopg [6, 7, 26] n (fun gk v6 v7 v26 wr => ∃ (j : Nat) (f : Nat → Bool) (Q rest : List Nat) (g o cap : Nat), j + gk = n ∧ v26 = .int .i64 (j : Int) ∧ v6 = .slice (some ⟨g, o, none⟩) Q.length cap ∧ Q = q :: rest ∧ G1 = outN n f + Q.length ∧ (∀ k, k < j → f k = false → P k q < P q k) ∧ QS w B Bi n P first wr f Q g o cap)
      case atStart => exact ⟨0, f, q :: rest, rest, g, o, cap, by omega, rfl, by rw [HMQ.out], rfl, GK.out.1, fun k hk => by omega, Z.out⟩
      case round =>
        clear Z
        obtain ⟨j, f, Q, rest, g, o, cap, hjg, rfl, rfl, hQ, hG, hH, hZ⟩ := hrel
        have Z : Hid (QS w B Bi n P first wr f Q g o cap) := hZ
        have HQ : Hid (Q = q :: rest) := hQ
        have HG : Hid (G1 = outN n f + Q.length) := hG
        have HH : Hid (∀ k, k < j → f k = false → P k q < P q k) := hH
        have HP : Hid (0 < Q.length) := by rw [hQ]; exact Nat.succ_pos _
        clear hZ hQ hG hH
        by_cases hj : j < n
        · have jl : (j : Int) < (n : Int) := by omega
          have ql : q < n := (Z.out.st.inq q (by rw [HQ.out]; exact List.mem_cons_self)).1
          have h0 : (0 : Int) < (Q.length : Int) := by have := HP.out; omega
          have c1 := Z.out.ih.cell j (by rw [bo_len]; exact hj)
          rw [bo_at hj] at c1
          have fz := Z.out.ih.frozen j
          have c2 : wr.cell? ⟨g, o, none⟩ = some (.int .i64 (q : Int)) := by
            have z := Z.out.qu.cell (j := 0) (by rw [zi_len]; exact HP.out)
            have e : (zi Q)[0]'(by rw [zi_len]; exact HP.out) = (q : Int) := by simp [zi, HQ.out]
            rw [e] at z
            simpa using z
          have BT : Hid (∀ V, Below w.heap.size w V → Calls Tryz.prog 40 #[.slice a n c, .int .i64 (q : Int), .int .i64 (j : Int)] V fun e w' => e = .returned (.bool (decide (P j q < P q j))) ∧ Below V.heap.size V w') := fun V hV => beats40 (HS.out V hV) ql hj
          have N1 : Hid (f j = true → ∀ k, k < j + 1 → f k = false → P k q < P q k) := fun hf k hk hfk => by
            by_cases e : k = j
            · subst e; rw [hf] at hfk; cases hfk
            · exact HH.out k (by omega) hfk
          have N2 : Hid (P j q < P q j → ∀ k, k < j + 1 → f k = false → P k q < P q k) := fun hf k hk hfk => by
            by_cases e : k = j
            · subst e; exact hf
            · exact HH.out k (by omega) hfk
          cases hf : f j with
          | true =>
            have N3 : Hid (∀ k, k < j + 1 → f k = false → P k q < P q k) := N1.out hf
            rw [hf] at c1
            clear hf N1 N2 BT
            go_wp2_with fail
            go_roundg (gk - 1)
            case measure => omega
            case rel => exact ⟨j + 1, f, Q, rest, g, o, cap, by omega, by go_num, rfl, HQ.out, HG.out, N3.out, Z.out⟩
          | false =>
            have HF : Hid (f j = false) := hf
            rw [hf] at c1
            clear hf N1
            by_cases hb : P j q < P q j
            · have N3 : Hid (∀ k, k < j + 1 → f k = false → P k q < P q k) := N2.out hb
              have ed : decide (P j q < P q j) = true := decide_eq_true hb
              rw [ed] at BT
              clear hb ed N2
              have ZB : Hid (Below w.heap.size w wr) := Z.out.bl
              go_wp2_with (first
                | (go_at_call 40; refine (BT.out _ ZB.out).mono ?_; rintro e w7 ⟨rfl, hB7⟩; have Z7 : Hid (QS w B Bi n P first w7 f Q g o cap) := Z.out.of_below hB7; clear hB7 BT)
                | fail)
              go_roundg (gk - 1)
              case measure => omega
              case rel => exact ⟨j + 1, f, Q, rest, g, o, cap, by omega, by go_num, rfl, HQ.out, HG.out, N3.out, Z7.out⟩
            · have ed : decide (P j q < P q j) = false := decide_eq_false hb
              rw [ed] at BT
              have HBN : Hid (¬ P j q < P q j) := hb
              clear hb ed N2
              have ZB : Hid (Below w.heap.size w wr) := Z.out.bl
              have HL9 : Hid (Q.length ≤ 4000) := by have := HG.out; have := GK.out.2; show _ ≤ _; omega
              have ON : Hid (outN n (ups f j) + 1 = outN n f) := outN_ups HF.out n hj
              go_wp2_with (first
                | (go_at_call 40; refine (BT.out _ ZB.out).mono ?_; rintro e w7 ⟨rfl, hB7⟩; have Z7 : Hid (QS w B Bi n P first w7 f Q g o cap) := Z.out.of_below hB7; have c7 := Z7.out.ih.cell j (by rw [bo_len]; exact hj); rw [bo_at hj, HF.out] at c7; have f7 := Z7.out.ih.frozen j; obtain ⟨g', o', cap', V', hr, hq2⟩ := Z7.out.add (j := j) (q := q) (by rw [HQ.out]; exact List.mem_cons_self) hj HBN.out HL9.out; have HR : Hid ((Builtin.append_ #[26, 26] 26 #[.slice (some ⟨g, o, none⟩) Q.length cap, .slice (some ⟨w7.heap.size, 0, none⟩) 1 1]).run Tryz.prog ((w7.setCell ⟨Bi, j, none⟩ (.bool true)).alloc (.cells #[.int .i64 (j : Int)] 3)) = .ok (.slice (some ⟨g', o', none⟩) (Q.length + 1) cap') V') := hr; have Z8 : Hid (QS w B Bi n P first V' (ups f j) (Q ++ [j]) g' o' cap') := hq2; clear hB7 BT hr hq2)
                | (at_builtin; refine wpList_append_at rfl (.tmp 46) (.tmp 48) 26 rfl _ _ _ rfl rfl HR.out ?_)
                | fail)
              go_roundg (gk - 1)
              case measure => omega
              case rel => exact ⟨j + 1, ups f j, Q ++ [j], rest ++ [j], g', o', cap', by omega, by go_num, by rw [List.length_append]; rfl, by rw [HQ.out]; rfl, by have := HG.out; have := ON.out; rw [List.length_append, List.length_singleton]; omega, (fun k hk hfk => by
                obtain ⟨e1, e2⟩ := ups_false hfk
                exact HH.out k (by omega) e2), Z8.out⟩
        · have jl : ¬ (j : Int) < (n : Int) := by omega
          have e : j = n := by omega
          have HH2 : Hid (∀ k, k < n → f k = false → P k q < P q k) := fun k hk => HH.out k (by omega)
          have ZS : Hid (ST P n first f rest) := by have z := Z.out.st; rw [HQ.out] at z; exact z.pop HH2.out
          have QL : Hid (Q.length = rest.length + 1) := by show _ = _; rw [HQ.out]; rfl
          have QE : Hid (zi Q = (q : Int) :: zi rest) := by show _ = _; rw [HQ.out]; rfl
          have CL : Hid (Q.length ≤ cap) := by have z := Z.out.qu.le; rw [zi_len] at z; exact z
          have GN : Hid (outN n f + rest.length < G1 ∧ outN n f + rest.length ≤ 13) := by have z1 := HG.out; have z2 := GK.out.2; have z3 := QL.out; show _ ∧ _; omega
          clear e HH
          rw [QL.out]
          have k1 : ¬ (((rest.length + 1 : Nat)) : Int) < 1 := by omega
          have k2 : ¬ cap < rest.length + 1 := by have := CL.out; have := QL.out; omega
          by_cases hc : cap = 1
          · have ZQ : Hid (rest = [] ∧ QU B wr g o 0 (zi rest)) := by
              have z := Z.out.qu
              rw [hc, QE.out] at z
              obtain ⟨z1, z2⟩ := z.pop1
              exact ⟨by simpa [zi] using z1, z2⟩
            have ZN : Hid (QS w B Bi n P first wr f rest g o 0) := ⟨ZS.out, ZQ.out.2, Z.out.ih, Z.out.bl, Z.out.sz, Z.out.lt⟩
            have re : rest.length = 0 := by rw [ZQ.out.1]; rfl
            have RE : Hid (rest.length = 0) := re
            rw [re] at k1 k2 ⊢
            clear re
            subst hc
            go_wp2_with fail
            go_roundg (outN n f + rest.length)
            case measure => exact GN.out.1
            case rel => exact ⟨f, rest, g, o, 0, rfl, GN.out.2, by rw [RE.out], ZN.out⟩
          · have ZQ : Hid (QU B wr g (o + 1) (cap - 1) (zi rest)) := by
              have z := Z.out.qu
              rw [QE.out] at z
              exact z.pop hc
            have ZN : Hid (QS w B Bi n P first wr f rest g (o + 1) (cap - 1)) := ⟨ZS.out, ZQ.out, Z.out.ih, Z.out.bl, Z.out.sz, Z.out.lt⟩
            go_wp2_with fail
            go_roundg (outN n f + rest.length)
            case measure => exact GN.out.1
            case rel => exact ⟨f, rest, g, o + 1, cap - 1, rfl, GN.out.2, by simp, ZN.out⟩
end Go.Proofs.YtkcnpcjogfhkbaaGreatDoor
