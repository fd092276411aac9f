/- Who goes second: goingSecond. -/
import Derived.Test.YtelfcapjegncfaaSf
set_option linter.unusedSimpArgs false
set_option linter.unusedVariables false
set_option maxRecDepth 100000
namespace Go.Proofs.Ytelfcapjegncfaa
open Go.RowKit Go.Shelf Go.PlainAid

attribute [local go_sem] Oper.semAt_some

/-- On which wire each row ends, of the first i wires. -/
def woz (L : List Nat) (i : Nat) : List Nat := (List.range L.length).map fun r => if wo L r < i then wo L r else 0
theorem woz_len (L : List Nat) (i : Nat) : (woz L i).length = L.length := by simp [woz]
theorem woz_zero (L : List Nat) : woz L 0 = upz 0 L.length := by simp [woz, upz]
theorem woz_all {L : List Nat} (hp : PM L) : woz L L.length = (List.range L.length).map (wo L) := by
  unfold woz
  apply List.map_congr_left
  intro r hr
  rw [List.mem_range] at hr
  rw [if_pos (hp.w_lt hr)]
theorem woz_set {L : List Nat} (hp : PM L) {i : Nat} (hi : i < L.length) : (ivs (woz L i)).set (oo L i) (.int .i64 (i : Int)) = ivs (woz L (i + 1)) := by
  apply List.ext_getElem
  · simp [ivs, woz]
  · intro j h1 h2
    have hj : j < L.length := by simpa [ivs, woz] using h2
    rw [List.getElem_set]
    simp only [ivs, woz, List.getElem_map, List.getElem_range]
    by_cases e : oo L i = j
    · rw [if_pos e, ← e, hp.w_o hi, if_pos (by omega)]
    · rw [if_neg e]
      have : wo L j ≠ i := fun q => e (by rw [← q]; exact hp.o_w hj)
      congr 2
      by_cases q : wo L j < i
      · rw [if_pos q, if_pos (by omega)]
      · rw [if_neg q, if_neg (by omega)]
theorem keeps_any {A B : World} (h : KeepsFrom 0 A B) (k : Nat) : KeepsFrom k A B := ⟨h.size, fun i o _ => h.same i o (Nat.zero_le _)⟩
theorem vl_setFar {V : World} {a : Option Addr} {vs : List Value} {b o n0 : Nat} (h : VL V a vs) (ha : ∀ b o, a = some ⟨b, o, none⟩ → b < n0) (hb : n0 ≤ b) (u : Value) : VL (V.setCell ⟨b, o, none⟩ u) a vs := fun j x hj => by
  obtain ⟨b', o', e, hc⟩ := h j x hj
  refine ⟨b', o', e, ?_⟩
  have := ha b' o' e
  exact (World.cell?_of_block (a := ⟨b', o' + j, none⟩) (Below.heap_setCell _ _ _ _ (by show b' ≠ b; omega))).trans hc
/-- How the first loop stands. -/
structure S1 (w V : World) (L : List Nat) (a : Option Addr) (c i : Nat) : Prop where
  x1 : IHolds V w.heap.size 29 [.slice a L.length c]
  x3 : IHolds V (w.heap.size + 1 + 1) 29 [.slice (some ⟨w.heap.size + 1, 0, none⟩) L.length L.length]
  x2 : IHolds V (w.heap.size + 1) 3 (ivs (woz L i))
  vl : VL V a (ivs L)
  bl : Below w.heap.size w V
set_option maxHeartbeats 4000000 in
theorem goingSecond24 {w : World} {L : List Nat} {a : Option Addr} {c : Nat} (hp : PM L) (h1 : 1 ≤ L.length) (hL : L.length ≤ 256) (hv : VL w a (ivs L)) :
    Calls Try.prog 24 #[.slice a L.length c] w fun e w' => (∃ B S, e = .returned (.slice (some ⟨B, 0, none⟩) L.length L.length) ∧ IHolds w' B 4 (tf S L.length) ∧ w.heap.size ≤ B ∧ Good L S) ∧ Below w.heap.size w w' := by
  obtain ⟨b0, o0, rfl, hc0⟩ := hv.int 0 (by omega)
  have hb0 : b0 < w.heap.size := cell_lt hc0
  have AV : Hid (∀ b o, (some ⟨b0, o0, none⟩ : Option Addr) = some ⟨b, o, none⟩ → b < w.heap.size) := fun b o e => by cases e; exact hb0
  have hmk := make29 (L.length : Int) L.length rfl (by omega) (w.alloc (.cells #[.slice (some ⟨b0, o0, none⟩) L.length c] 29))
  obtain ⟨W0, hW0⟩ : ∃ W0, W0 = (((w.alloc (.cells #[.slice (some ⟨b0, o0, none⟩) L.length c] 29)).alloc (.cells (ivs (upz 0 L.length)).toArray 3)).alloc (.cells #[.slice (some ⟨w.heap.size + 1, 0, none⟩) L.length L.length] 29)) := ⟨_, rfl⟩
  have Z0 : Hid (S1 w W0 L (some ⟨b0, o0, none⟩) c 0) := by
    have i1 := IHolds.new w 29 [.slice (some ⟨b0, o0, none⟩) L.length c]
    have i2 := IHolds.new (w.alloc (.cells #[.slice (some ⟨b0, o0, none⟩) L.length c] 29)) 3 (ivs (upz 0 L.length))
    have i3 := IHolds.new ((w.alloc (.cells #[.slice (some ⟨b0, o0, none⟩) L.length c] 29)).alloc (.cells (ivs (upz 0 L.length)).toArray 3)) 29 [.slice (some ⟨w.heap.size + 1, 0, none⟩) L.length L.length]
    simp only [World.size_alloc] at i2 i3
    have bb : Below w.heap.size w (((w.alloc (.cells #[.slice (some ⟨b0, o0, none⟩) L.length c] 29)).alloc (.cells (ivs (upz 0 L.length)).toArray 3)).alloc (.cells #[.slice (some ⟨w.heap.size + 1, 0, none⟩) L.length L.length] 29)) := (((Below.refl _ w).alloc (Nat.le_refl _) _).alloc (by simp) _).alloc (by simp; omega) _
    rw [hW0]
    refine ⟨(i1.of_below (nB _ _)).of_below (nB _ _), i3, ?_, hv.of_below bb, bb⟩
    rw [woz_zero]
    exact i2.of_below (nB _ _)
  have HP : Hid (PM L) := hp
  have HLT : Hid (∀ i, i < L.length → oo L i < L.length) := fun i hi => hp.o_lt hi
  clear hv hc0 hp
  refine (callsIn_wide (n := 3)).1 ?_
  refine callsIn_of_wp_marks Try.func24 rfl trivial ?_ rfl
  simp only [Try.ntmps24, List.size_toArray, List.length_cons, List.length_nil, Nat.reduceAdd, Nat.reduceSub, Array.replicate_succ, Array.replicate_zero, List.push_toArray, List.append_toArray, List.nil_append, List.cons_append]
  gi_wp2
  rw [← hW0]
  clear hW0 hmk
  gi_loopw [4, 5, 16] (fun v4 v5 v16 wr => ∃ i : Nat, i ≤ L.length ∧ v16 = .int .i64 (i : Int) ∧ S1 w wr L (some ⟨b0, o0, none⟩) c i) (fun v4 v5 v16 _ => L.length - (intOf v16).toNat)
  case atStart => exact ⟨0, by omega, rfl, Z0.out⟩
  case round =>
    obtain ⟨i, hi, rfl, hZ⟩ := hrel
    have Z : Hid (S1 w wr L (some ⟨b0, o0, none⟩) c i) := hZ
    clear hZ Z0
    by_cases hlt : i < L.length
    · have il : (i : Int) < (L.length : Int) := by omega
      have hx := HLT.out i hlt
      have xl : (oo L i : Int) < (L.length : Int) := by omega
      obtain ⟨b, o, e, q1⟩ := Z.out.vl.int i hlt
      cases e
      have e1 : L[i] = oo L i := (getD_at hlt).symm
      rw [e1] at q1
      have q3 := Z.out.x3.cell 0 (by simp)
      have q2 := Z.out.x2.cell (oo L i) (by rw [ivs_len, woz_len]; exact hx)
      have f2 := Z.out.x2.frozen (oo L i)
      have Z2 : Hid (S1 w (wr.setCell ⟨w.heap.size + 1, oo L i, none⟩ (.int .i64 (i : Int))) L (some ⟨b0, o0, none⟩) c (i + 1)) := by
        have h := Z.out
        refine ⟨h.x1.set_far (by omega) _, h.x3.set_far (by omega) _, ?_, vl_setFar h.vl AV.out (by omega) _, h.bl.setCell (p := ⟨w.heap.size + 1, oo L i, none⟩) (by show w.heap.size ≤ w.heap.size + 1; omega) _⟩
        have := h.x2.set (oo L i) (.int .i64 (i : Int))
        rw [woz_set HP.out hlt] at this
        exact this
      clear e1
      generalize (ivs (woz L i))[oo L i]'(by rw [ivs_len, woz_len]; exact hx) = old at *
      generalize oo L i = x at *
      gi_wp2
      go_roundw
      case rel => exact ⟨i + 1, by omega, by simp, Z2.out⟩
      case measure => simp [intOf]; omega
    · obtain rfl : i = L.length := by omega
      clear hlt
      gi_wp2
      refine wpIn_wide.2 ?_
      refine Code.wp_mono (Q := fun e aa ww => match e with | .normal => (?R : Act → World → Prop) aa ww | _ => False) ?next ?here
      case next =>
        intro ex aa ww hh
        cases ex with
        | normal => exact hh
        | _ => exact hh.elim
      case here =>
        refine rg7_wp _ _ _ _ _ _ _ _ _ _ _ _ _ _ _ _ _ _ _ _ _ _ _ _ _ _ _ _ _ _ _ _ _ _ _ _ _ _ _ _ _ _ _ _ _ _ _ _ _ _ _ _ _ _ _ _ _ _ _ _ _ _ _ _ (Z.out.x1.cell 0 (by simp)) hL (fun _ _ _ _ h => h) ?_
        intro B6 B7 Bs Bp V1 hK
        have HC : Hid (∀ V, CallsIn Fence.wide (3 - 1) Try.prog 29 #[.slice (some ⟨b0, o0, none⟩) L.length c] V fun e w' => e = .returned (.func (.func 32) #[] #[.pointer (some ⟨V.heap.size, 0, none⟩)]) ∧ w' = V.alloc (.cells #[.slice (some ⟨b0, o0, none⟩) L.length c] 29)) := fun V => callsIn_wide.2 (backward29 V _ _ _)
        have f29 : Fence.wide.fn 29 := trivial
        have y1' : IHolds V1 w.heap.size 29 [.slice (some ⟨b0, o0, none⟩) L.length c] := Z.out.x1.of_below hK.bl
        have c1 := y1'.cell 0 (by simp)
        have SS0 : Hid (SS w (V1.alloc (.cells #[.slice (some ⟨b0, o0, none⟩) L.length c] 29)) L (some ⟨b0, o0, none⟩) c w.heap.size (w.heap.size + 1 + 1) (w.heap.size + 1) B6 B7 Bs Bp V1.heap.size (fun _ => false) (fun _ => false)) := by
          have hsz := Z.out.bl.size
          refine ⟨y1'.of_below (nB _ _), (Z.out.x3.of_below hK.bl).of_below (nB _ _), ?_, (hK.h6 _ rfl).1.of_below (nB _ _), (hK.h7 _ rfl).1.of_below (nB _ _), (hK.h2 _ rfl).1.of_below (nB _ _), (hK.h5 _ rfl).1.of_below (nB _ _), IHolds.new _ _ _, fun e => hK.n25 Bs rfl (by rw [e]), Nat.le_trans hsz (hK.h2 _ rfl).2, Nat.le_trans hsz (hK.h5 _ rfl).2, AV.out, (Z.out.vl.of_below hK.bl).of_below (nB _ _), (Z.out.bl.trans (hK.bl.mono hsz)).alloc (Nat.le_trans hsz hK.bl.size) _⟩
          have := Z.out.x2
          rw [woz_all HP.out] at this
          exact (this.of_below hK.bl).of_below (nB _ _)
        have LW : Hid (w.heap.size ≤ (V1.alloc (.cells #[.slice (some ⟨b0, o0, none⟩) L.length c] 29)).heap.size) := Nat.le_trans (Nat.le_trans Z.out.bl.size hK.bl.size) (nB _ _).size
        clear hK y1' Z
        dsimp only
        gi_wp2_with (gi_at_call 29; refine (HC.out _).mono ?_; rintro e w2 ⟨rfl, rfl⟩)
        clear c1 HC f29
        generalize V1.alloc (.cells #[.slice (some ⟨b0, o0, none⟩) L.length c] 29) = V2 at *
        generalize V1.heap.size = B8 at *
        refine range_rounds (n := 3) (by omega) (gf := 32) (lb := #[.pointer (some ⟨B8, 0, none⟩)]) rfl (enters_of Try.func32 (by kernel_rfl) rfl) (encs := encB L) (N := L.length) (fun _ => rfl)
          (I := fun k V => ∃ p s, SS w V L (some ⟨b0, o0, none⟩) c w.heap.size (w.heap.size + 1 + 1) (w.heap.size + 1) B6 B7 Bs Bp B8 p s ∧ Out L p s ∧ ∀ j, j < k → p (oo L (L.length - 1 - j)) = true)
          (fun k => ⟨fun V o ⟨p, s, h1, h2, h3⟩ => ⟨p, s, h1.lay o, h2, h3⟩, fun V l o o' ⟨p, s, h1, h2, h3⟩ hl hk ho => ⟨p, s, h1.turn LW.out hl hk ho, h2, h3⟩⟩)
          ⟨_, _, SS0.out, Out.init, fun j hj => by omega⟩
          (backward32 L hL B8 _ c (fun k V ⟨p, s, h1, _⟩ => ⟨h1.x8.cell 0 (by simp), h1.vl⟩))
          ?a1 ?assign ?body ?done
        case assign =>
          intro l k V K hK
          dsimp only [encB]
          gi_wp2
          exact hK
        case body =>
          rintro l k V hk ⟨p, s, hX, hO, hj⟩
          refine wpIn_mono (bd24_in hL HP.out (r0 := oo L (L.length - 1 - k)) (HP.out.o_lt (by omega)) hX hO ?_ _ _ _ _ _ _ _ _ _ _ _ _ _ _ _ _ _ _ _ _ _ _ _ _ _ _ _ _ _ _ _ _ _ _ _ _ _ _ _ _ _ _ _ _ _ _ _ _ _ _ _ _ _ _ _ _ _ _ _ _) ?_
          · by_cases h0 : k = 0
            · left; rw [h0]; rfl
            · right; exact hj 0 (by omega)
          · rintro e aa V' ⟨rfl, hkf, p', s', hX', hO', hr, hm⟩
            refine ⟨rfl, keeps_any hkf _, p', s', hX', hO', fun j hjk => ?_⟩
            by_cases e : j = k
            · subst e; exact hr
            · exact hm _ (hj j (by omega))
        case done =>
          rintro D V hD ⟨p, s, hX, hO, hj⟩ hd
          have c6 := hX.x6.cell 0 (by simp)
          have HX : Hid (SS w V L (some ⟨b0, o0, none⟩) c w.heap.size (w.heap.size + 1 + 1) (w.heap.size + 1) B6 B7 Bs Bp B8 p s) := hX
          have HG : Hid (Good L s) := hO.good HP.out (fun x hx => by
            have h2 := HP.out.w_lt hx
            have := hj (L.length - 1 - wo L x) (by omega)
            rw [show L.length - 1 - (L.length - 1 - wo L x) = wo L x by omega, HP.out.o_w hx] at this
            exact this)
          clear hX hO hj SS0
          gi_wp2
          refine ⟨by simp, .inl ⟨_, _, rfl, run_takeDeferred hd, ?_⟩⟩
          refine ⟨_, results_tmp rfl _ _ _, ⟨Bs, s, rfl, HX.out.xs.turn hd rfl, HX.out.ls, HG.out⟩, (HX.out.turn LW.out hD hd rfl).bl⟩
end Go.Proofs.Ytelfcapjegncfaa
