/- What is hashed, kept: the closure hash. -/
import Derived.Test.YteomefhjglnghaaDoorNa
import Derived.Maps.AppendAt
import Derived.Deep.RegionHeld3
set_option linter.unusedSimpArgs false
set_option linter.unusedVariables false
set_option maxRecDepth 100000
namespace Go.Proofs.YteomefhjglnghaaDoor
open Go.RowKit Go.Deep Go.PlainAid

/-- Where two texts have one digest, it was told. -/
def Cl (sm : Bool) (TL : List ByteArray) : Prop := ∀ u ∈ TL, ∀ v ∈ TL, dgF u = dgF v → u ≠ v → sm = true
theorem Cl.snoc {sm sm' : Bool} {TL : List ByteArray} {t : ByteArray} (h : Cl sm TL) (h1 : sm = true → sm' = true) (h2 : ∀ u ∈ TL, dgF u = dgF t → u ≠ t → sm' = true) : Cl sm' (TL ++ [t]) := fun u hu v hv he hne => by
  rcases List.mem_append.1 hu with a1 | a1
  · rcases List.mem_append.1 hv with a2 | a2
    · exact h1 (h u a1 v a2 he hne)
    · have a3 := List.mem_singleton.1 a2
      rw [a3] at he hne
      exact h2 u a1 he hne
  · have a3 := List.mem_singleton.1 a1
    rw [a3] at he hne
    rcases List.mem_append.1 hv with a2 | a2
    · exact h2 v a2 he.symm (fun q => hne q.symm)
    · exact absurd (List.mem_singleton.1 a2).symm hne
theorem Cl.nc {TL : List ByteArray} (h : Cl false TL) : NC TL := fun u hu v hv he => by
  by_cases q : u = v
  · exact q
  · have := h u hu v hv he q
    cases this
structure St (w : World) (base Bt Bs Bd : Nat) (vt vd : Value) (TL : List ByteArray) (sm : Bool) : Prop where
  t : Boxed w Bt 22 vt
  s : Boxed w Bs 4 (.bool sm)
  d : Boxed w Bd 22 vd
  rt : w.ownsRow base 9 1 vt TL.length (TL.map Value.string)
  rd : w.ownsRow base 9 1 vd TL.length ((TL.map dgF).map Value.string)
  ne : ∀ k, vt.ownBlock = some k → vd.ownBlock ≠ some k
  cl : Cl sm TL
/-- The blocks that hash turns. -/
def Ft (Bt Bs Bd : Nat) (vt vd : Value) (k : Nat) : Prop := k = Bt ∨ k = Bs ∨ k = Bd ∨ vt.ownBlock = some k ∨ vd.ownBlock = some k
structure Kp (w w' : World) (F F' : Nat → Prop) : Prop where
  os : w'.os = w.os
  tape : w'.tape = w.tape
  output : w'.output = w.output
  size : w.heap.size ≤ w'.heap.size
  keep : ∀ k, k < w.heap.size → ¬ F k → w'.heap[k]? = w.heap[k]? ∧ ¬ F' k
theorem Kp.of_below {w w' : World} {F : Nat → Prop} (h : Below w.heap.size w w') : Kp w w' F F := ⟨h.os, h.tape, h.output, h.size, fun k hk hf => ⟨h.block k hk, hf⟩⟩
theorem Kp.trans {u v w : World} {F G H : Nat → Prop} (h : Kp u v F G) (k : Kp v w G H) : Kp u w F H := ⟨k.os.trans h.os, k.tape.trans h.tape, k.output.trans h.output, Nat.le_trans h.size k.size, fun j hj hf => by
  obtain ⟨e1, f1⟩ := h.keep j hj hf
  obtain ⟨e2, f2⟩ := k.keep j (Nat.lt_of_lt_of_le hj h.size) f1
  exact ⟨e2.trans e1, f2⟩⟩
theorem Kp.below {w w' : World} {F F' : Nat → Prop} {base : Nat} (h : Kp w w' F F') (hF : ∀ k, F k → base ≤ k) (hb : base ≤ w.heap.size) : Below base w w' := ⟨h.os, h.tape, h.output, h.size, fun k hk => (h.keep k (Nat.lt_of_lt_of_le hk hb) (fun q => by have := hF k q; omega)).1⟩
theorem St.of_below {w w' : World} {base Bt Bs Bd : Nat} {vt vd : Value} {TL : List ByteArray} {sm : Bool} (h : St w base Bt Bs Bd vt vd TL sm) (hb : Below w.heap.size w w') : St w' base Bt Bs Bd vt vd TL sm :=
  ⟨box_below h.t hb, box_below h.s hb, box_below h.d hb, row_keep h.rt hb, row_keep h.rd hb, h.ne, h.cl⟩
theorem St.foot {w : World} {base Bt Bs Bd : Nat} {vt vd : Value} {TL : List ByteArray} {sm : Bool} (h : St w base Bt Bs Bd vt vd TL sm) (h1 : base ≤ Bt) (h2 : base ≤ Bs) (h3 : base ≤ Bd) : ∀ k, Ft Bt Bs Bd vt vd k → base ≤ k := fun k hk => by
  rcases hk with rfl | rfl | rfl | q | q
  · exact h1
  · exact h2
  · exact h3
  · exact (h.rt.lt k q).1
  · exact (h.rd.lt k q).1
/-- A list that lies elsewhere stays. -/
theorem app_keep {w w5 : World} {o : Obj} {v v' : Value} {B k : Nat} (hg : (w.alloc o).grownBy w5 v.ownBlock) (hk : k < w.heap.size) (h1 : k ≠ B) (h2 : v.ownBlock ≠ some k) : (w5.setCell ⟨B, 0, none⟩ v').heap[k]? = w.heap[k]? :=
  (Below.heap_setCell _ _ _ _ h1).trans ((hg.block k (by simp; omega) (fun q => h2 q.symm)).trans (Below.heap_alloc _ _ _ hk))
theorem jn_of {S label : ByteArray} {ps : List ByteArray} (h : S.data.toList = F.partsL (label :: ps)) : S = jnF label ps := by
  unfold jnF
  cases S
  simp only [ByteArray.mk.injEq]
  rw [← h]
theorem jn_size (label : ByteArray) (ps : List ByteArray) : (jnF label ps).size = (F.partsL (label :: ps)).length := by
  show (F.partsL (label :: ps)).toArray.size = _
  simp
/-- One more on a boxed list. -/
structure Ap (w X : World) (B : Nat) (v v' : Value) (base n : Nat) (xs : List Value) : Prop where
  os : X.os = w.os
  tape : X.tape = w.tape
  output : X.output = w.output
  size : w.heap.size < X.heap.size
  keep : ∀ k, k < w.heap.size → k ≠ B → v.ownBlock ≠ some k → X.heap[k]? = w.heap[k]?
  at_ : v'.ownBlock = v.ownBlock ∨ ∃ k, v'.ownBlock = some k ∧ w.heap.size ≤ k
  box : Boxed X B 22 v'
  row : X.ownsRow base 9 1 v' n xs
theorem ap_of {w w5 : World} {o : Obj} {v v' : Value} {B base k m : Nat} {xs ys : List Value} (hv : Boxed w B 22 v) (hrow : w.ownsRow base 9 1 v k xs) (hb : base ≤ w.heap.size) (hB : base ≤ B) (hown : w5.ownsRow base 9 1 v' m ys) (hg : (w.alloc o).grownBy w5 v.ownBlock)
    (hat : v'.ownBlock = v.ownBlock ∨ v'.ownBlock = some (w.alloc o).heap.size) : Ap w (w5.setCell ⟨B, 0, none⟩ v') B v v' base m ys ∧ Boxed w5 B 22 v := by
  obtain ⟨h1, h2, h3, _, _⟩ := Boxed.appended (tmp := o) hv (by decide) hrow hb hB hown hg
  refine ⟨⟨hg.os, hg.tape, hg.output, ?_, fun k hk q1 q2 => app_keep hg hk q1 q2, hat.imp id (fun q => ⟨_, q, by simp⟩), h2, h3⟩, h1⟩
  have := hg.size
  simp at this ⊢
  omega
theorem Ap.not {w X : World} {B : Nat} {v v' : Value} {base n : Nat} {xs : List Value} (h : Ap w X B v v' base n xs) {k : Nat} (hk : k < w.heap.size) (hn : v.ownBlock ≠ some k) : v'.ownBlock ≠ some k := fun q => by
  rcases h.at_ with e | ⟨j, e, hj⟩
  · exact hn (e.symm.trans q)
  · rw [e] at q
    cases q
    omega
theorem hash_end {w X Y : World} {base Bt Bs Bd : Nat} {vt vd vt' vd' : Value} {TL : List ByteArray} {b : Bool} {t d : ByteArray} (n1 : Bt ≠ Bs) (n2 : Bt ≠ Bd) (n3 : Bs ≠ Bd) (TB : Boxed w Bt 22 vt) (DB : Boxed w Bd 22 vd) (BX : Boxed w Bs 4 (.bool b))
    (RT : w.ownsRow base 9 1 vt TL.length (TL.map Value.string)) (RD : w.ownsRow base 9 1 vd TL.length ((TL.map dgF).map Value.string)) (NE : ∀ k, vt.ownBlock = some k → vd.ownBlock ≠ some k) (HC : Cl b (TL ++ [t])) (HD : dgF t = d)
    (a5 : Ap w X Bt vt vt' base (TL.length + 1) (TL.map Value.string ++ [.string t])) (a6 : Ap X Y Bd vd vd' base (TL.length + 1) ((TL.map dgF).map Value.string ++ [.string d])) : St Y base Bt Bs Bd vt' vd' (TL ++ [t]) b := by
  have RD2 : X.ownsRow base 9 1 vd TL.length ((TL.map dgF).map Value.string) := row_same RD (fun k hk => a5.keep k (RD.lt k hk).2 (fun q => Boxed.not_row TB (by decide) RD (by rw [hk, q])) (fun q => NE k q hk))
  have BX2 : Boxed X Bs 4 (.bool b) := (a5.keep Bs BX.lt (fun q => n1 q.symm) (fun q => Boxed.not_row BX (by decide) RT q.symm)).trans BX
  have NE2 : ∀ k, vt'.ownBlock = some k → vd.ownBlock ≠ some k := fun k hk q => by
    rcases a5.at_ with e | ⟨j, e, hj⟩
    · exact NE k (e.symm.trans hk) q
    · rw [e] at hk
      cases hk
      have := (RD.lt k q).2
      omega
  refine ⟨(a6.keep Bt a5.box.lt n2 (fun q => Boxed.not_row a5.box (by decide) RD2 q.symm)).trans a5.box, (a6.keep Bs BX2.lt n3 (fun q => Boxed.not_row BX2 (by decide) RD2 q.symm)).trans BX2, a6.box, ?_, ?_, ?_, HC⟩
  · have := row_same (w' := Y) a5.row (fun k hk => a6.keep k (a5.row.lt k hk).2 (fun q => by
      have DB2 : Boxed X Bd 22 vd := (a5.keep Bd DB.lt (fun q => n2 q.symm) (fun q => Boxed.not_row DB (by decide) RT q.symm)).trans DB
      exact Boxed.not_row DB2 (by decide) a5.row (by rw [hk, q])) (NE2 k hk))
    simpa using this
  · have := a6.row
    rw [← HD] at this
    simpa using this
  · intro k hk
    exact a6.not (a5.row.lt k hk).2 (NE2 k hk)
theorem kp_end {w X Y : World} {base Bt Bs Bd n m : Nat} {vt vd vt' vd' : Value} {xs ys xs' ys' : List Value} (n2 : Bt ≠ Bd) (TB : Boxed w Bt 22 vt) (DB : Boxed w Bd 22 vd) (RT : w.ownsRow base 9 1 vt n xs) (RD : w.ownsRow base 9 1 vd n ys)
    (a5 : Ap w X Bt vt vt' base m xs') (a6 : Ap X Y Bd vd vd' base m ys') : Kp w Y (Ft Bt Bs Bd vt vd) (Ft Bt Bs Bd vt' vd') :=
  ⟨a6.os.trans a5.os, a6.tape.trans a5.tape, a6.output.trans a5.output, Nat.le_trans (Nat.le_of_lt a5.size) (Nat.le_of_lt a6.size), fun k hk hf => by
    have f1 : k ≠ Bt := fun q => hf (Or.inl q)
    have f3 : k ≠ Bd := fun q => hf (Or.inr (Or.inr (Or.inl q)))
    have f4 : vt.ownBlock ≠ some k := fun q => hf (Or.inr (Or.inr (Or.inr (Or.inl q))))
    have f5 : vd.ownBlock ≠ some k := fun q => hf (Or.inr (Or.inr (Or.inr (Or.inr q))))
    have hk2 : k < X.heap.size := Nat.lt_trans hk a5.size
    refine ⟨(a6.keep k hk2 f3 f5).trans (a5.keep k hk f1 f4), ?_⟩
    rintro (q | q | q | q | q)
    · exact f1 q
    · exact hf (Or.inr (Or.inl q))
    · exact f3 q
    · exact a5.not hk f4 q
    · exact a6.not hk2 f5 q⟩
def HP (V V' : World) (base Bt Bs Bd : Nat) (vt vd : Value) (TL' : List ByteArray) : Prop := ∃ vt' vd' sm', St V' base Bt Bs Bd vt' vd' TL' sm' ∧ Kp V V' (Ft Bt Bs Bd vt vd) (Ft Bt Bs Bd vt' vd')
set_option maxHeartbeats 4000000 in
theorem hash16 {V : World} {base Bt Bs Bd : Nat} {vt vd : Value} {TL : List ByteArray} {sm : Bool} {label : ByteArray} {a : Option Addr} {c : Nat} {ps : List ByteArray} (n1 : Bt ≠ Bs) (n2 : Bt ≠ Bd) (n3 : Bs ≠ Bd) (hbt : base ≤ Bt) (hbs : base ≤ Bs) (hbd : base ≤ Bd) (hb : base ≤ V.heap.size) (hl : label.size ≤ 1048576) (hsz : Sz ps) (hs : SL V a ps) (hTL : TL.length ≤ 67108864) (h : St V base Bt Bs Bd vt vd TL sm) :
    Calls Tryd.prog 16 #[.string label, .slice a ps.length c, .pointer (some ⟨Bt, 0, none⟩), .pointer (some ⟨Bs, 0, none⟩), .pointer (some ⟨Bd, 0, none⟩)] V fun e V' => e = .returned (.string (tgF label ps)) ∧ HP V V' base Bt Bs Bd vt vd (TL ++ [jnF label ps]) := by
  have C17 : Hid (Calls Tryd.prog 17 #[.string label, .slice a ps.length c] V fun e w' => e = .returned (.string (jnF label ps)) ∧ Below V.heap.size V w') := (F.joined_any label a c ps V hs (by have := hsz.1; omega) (by omega) (fun i hi => by have := hsz.2.1 ps[i] (List.getElem_mem hi); omega) (Sz.bound hl hsz)).mono fun e w' ⟨⟨S, he, hS⟩, hb⟩ => ⟨by rw [he, jn_of hS], hb⟩
  have C18 : Hid (∀ W, Calls Tryd.prog 18 #[.string (jnF label ps)] W fun e w' => e = .returned (.string (dgF (jnF label ps))) ∧ Below W.heap.size W w') := fun W => F.refDigest_any (jnF label ps) (by rw [jn_size]; exact Sz.bound hl hsz) W
  rw [tg_dg]
  generalize jnF label ps = t at *
  obtain ⟨d, hd⟩ : ∃ d, dgF t = d := ⟨_, rfl⟩
  have HD : Hid (dgF t = d) := hd
  rw [hd] at C18
  rw [hd]
  clear hd hs hsz hl
  obtain ⟨at', ct, rfl, _⟩ := own_sl (by simp) h.rt
  obtain ⟨ad, cd, rfl, _⟩ := own_sl (by simp) h.rd
  have HS : Hid (St V base Bt Bs Bd (.slice at' TL.length ct) (.slice ad TL.length cd) TL sm) := h
  obtain ⟨i0, hi0, hz0, hz1, hz2⟩ := info_parts info9
  clear h
  go_enter Tryd.func16, Tryd.ntmps16
  go_wp2_with (first
    | (go_at_call 17; refine (Calls.mono C17.out) ?_; rintro e w1 ⟨rfl, hB⟩; have B1 : Hid (Below V.heap.size V w1) := hB; clear hB C17)
    | (go_at_call 18; refine (C18.out _).mono ?_; rintro e w2 ⟨rfl, hB⟩; have B2 : Hid (Below V.heap.size V w2) := B1.out.trans (hB.mono B1.out.size); have S2 : Hid (St w2 base Bt Bs Bd (.slice at' TL.length ct) (.slice ad TL.length cd) TL sm) := HS.out.of_below (B1.out.trans (hB.mono B1.out.size)); have cT := Boxed.cell S2.out.t; clear hB C18))
  clear cT
  go_loopg [10, 18] TL.length (fun gk v10 v18 wr => ∃ (i : Nat) (b : Bool), i + gk = TL.length ∧ v18 = .int .i64 (i : Int) ∧ Boxed wr Bs 4 (.bool b) ∧ F.But Bs w2 wr ∧ (sm = true → b = true) ∧ ∀ u ∈ TL.take i, dgF u = d → u ≠ t → b = true)
  case atStart => exact ⟨0, sm, by omega, rfl, S2.out.s, F.But.refl _ _, id, fun u hu => by simp at hu⟩
  case round =>
    obtain ⟨i, b, hig, rfl, hbox, hbut, hsm, hhit⟩ := hrel
    have BX : Hid (Boxed wr Bs 4 (.bool b)) := hbox
    have BU : Hid (F.But Bs w2 wr) := hbut
    have SM : Hid (sm = true → b = true) := hsm
    have HH : Hid (∀ u ∈ TL.take i, dgF u = d → u ≠ t → b = true) := hhit
    clear hbox hbut hsm hhit
    have TB : Hid (Boxed wr Bt 22 (.slice at' TL.length ct)) := (BU.out.block Bt S2.out.t.lt n1).trans S2.out.t
    have DB : Hid (Boxed wr Bd 22 (.slice ad TL.length cd)) := (BU.out.block Bd S2.out.d.lt (fun q => n3 q.symm)).trans S2.out.d
    by_cases hi : i < TL.length
    · have il : (i : Int) < (TL.length : Int) := by omega
      obtain ⟨gt, kt, et, _, _, _, hgt, hct⟩ := row_formT (show 0 < TL.length by omega) S2.out.rt
      obtain ⟨gd, kd, ed, _, _, _, hgd, hcd⟩ := row_formT (show 0 < TL.length by omega) S2.out.rd
      have ngt : gt ≠ Bs := fun q => by have := Boxed.not_row S2.out.s (by decide) S2.out.rt; rw [et] at this; simp [Value.ownBlock] at this; exact this q.symm
      have ngd : gd ≠ Bs := fun q => by have := Boxed.not_row S2.out.s (by decide) S2.out.rd; rw [ed] at this; simp [Value.ownBlock] at this; exact this q.symm
      cases et
      cases ed
      have q1 : wr.cell? ⟨gt, i, none⟩ = some (.string TL[i]) := (World.cell?_of_block (a := ⟨gt, i, none⟩) (BU.out.block gt hgt ngt)).trans (hct i _ (by simp [hi]))
      have q2 : wr.cell? ⟨gd, i, none⟩ = some (.string (dgF TL[i])) := (World.cell?_of_block (a := ⟨gd, i, none⟩) (BU.out.block gd hgd ngd)).trans (hcd i _ (by simp [hi]))
      have HT : Hid (∀ b', (b = true → b' = true) → (dgF TL[i] = d → TL[i] ≠ t → b' = true) → ∀ u ∈ TL.take (i + 1), dgF u = d → u ≠ t → b' = true) := fun b' g1 g2 u hu he hne => by
        rw [List.take_succ_eq_append_getElem hi] at hu
        rcases List.mem_append.1 hu with hu | hu
        · exact g1 (HH.out u hu he hne)
        · simp at hu
          subst hu
          exact g2 he hne
      have cT := Boxed.cell TB.out
      have cD := Boxed.cell DB.out
      have cS := Boxed.cell BX.out
      have fS := Boxed.frozen BX.out
      have NB : Hid (∀ x : Bool, Boxed (wr.setCell ⟨Bs, 0, none⟩ (.bool x)) Bs 4 (.bool x) ∧ F.But Bs w2 (wr.setCell ⟨Bs, 0, none⟩ (.bool x))) := fun x => ⟨Boxed.set (.bool x) BX.out, BU.out.trans ⟨rfl, rfl, rfl, by simp, fun k hk hne => Below.heap_setCell _ _ _ _ hne⟩⟩
      generalize TL[i] = u at *
      generalize dgF u = e at *
      clear hct hcd
      cases b with
      | true =>
        go_wp2_with fail
        go_roundg (gk - 1)
        case measure => omega
        case rel => exact ⟨i + 1, true, by omega, by go_num, (NB.out true).1, (NB.out true).2, fun _ => rfl, HT.out true (fun _ => rfl) (fun _ _ => rfl)⟩
      | false =>
        by_cases he : e = d
        · have k1 : (e.toList == d.toList) = true := by rw [he]; simp
          by_cases hu : u = t
          · have k2 : (u.toList == t.toList) = true := by rw [hu]; simp
            have k3 : (u.toList != t.toList) = false := by rw [bne, k2]; rfl
            have HTF : Hid _ := HT.out false (fun q => q) (fun _ q => absurd hu q)
            clear he hu
            go_wp2_with fail
            go_roundg (gk - 1)
            case measure => omega
            case rel => exact ⟨i + 1, false, by omega, by go_num, (NB.out false).1, (NB.out false).2, SM.out, HTF.out⟩
          · have k2 : (u.toList == t.toList) = false := toList_ne hu
            have k3 : (u.toList != t.toList) = true := by rw [bne, k2]; rfl
            clear he hu
            go_wp2_with fail
            go_roundg (gk - 1)
            case measure => omega
            case rel => exact ⟨i + 1, true, by omega, by go_num, (NB.out true).1, (NB.out true).2, fun _ => rfl, HT.out true (fun _ => rfl) (fun _ _ => rfl)⟩
        · have k1 : (e.toList == d.toList) = false := toList_ne he
          have HTF : Hid _ := HT.out false (fun q => q) (fun q => absurd q he)
          clear he
          go_wp2_with fail
          go_roundg (gk - 1)
          case measure => omega
          case rel => exact ⟨i + 1, false, by omega, by go_num, (NB.out false).1, (NB.out false).2, SM.out, HTF.out⟩
    · have il : ¬ (i : Int) < (TL.length : Int) := by omega
      have HC : Hid (Cl b (TL ++ [t])) := S2.out.cl.snoc SM.out (fun u hu he hne => HH.out u (by rw [List.take_of_length_le (by omega)]; exact hu) (by rw [he, HD.out]) hne)
      have RT : Hid (wr.ownsRow base 9 1 (.slice at' TL.length ct) TL.length (TL.map Value.string)) := row_same S2.out.rt (fun k hk => BU.out.block k (S2.out.rt.lt k hk).2 (fun q => by have := Boxed.not_row S2.out.s (by decide) S2.out.rt; rw [hk, q] at this; exact this rfl))
      have RD : Hid (wr.ownsRow base 9 1 (.slice ad TL.length cd) TL.length ((TL.map dgF).map Value.string)) := row_same S2.out.rd (fun k hk => BU.out.block k (S2.out.rd.lt k hk).2 (fun q => by have := Boxed.not_row S2.out.s (by decide) S2.out.rd; rw [hk, q] at this; exact this rfl))
      have hbw : base ≤ wr.heap.size := Nat.le_trans hb (Nat.le_trans B2.out.size BU.out.size)
      have cT := Boxed.cell TB.out
      have K0 : Hid (Kp V wr (Ft Bt Bs Bd (.slice at' TL.length ct) (.slice ad TL.length cd)) (Ft Bt Bs Bd (.slice at' TL.length ct) (.slice ad TL.length cd))) := (Kp.of_below B2.out).trans ⟨BU.out.os, BU.out.tape, BU.out.output, BU.out.size, fun k hk hf => ⟨BU.out.block k hk (fun q => hf (Or.inr (Or.inl q))), hf⟩⟩
      have NE : Hid (∀ k, (.slice at' TL.length ct : Value).ownBlock = some k → (.slice ad TL.length cd : Value).ownBlock ≠ some k) := S2.out.ne
      clear SM HH S2 BU
      go_wp2_with (first
        | (at_builtin; refine wpList_append_own_at _ rfl (.tmp 39) (.tmp 41) 22 rfl base 9 i0 (.string ⟨#[]⟩) 1 16 Tryd.underlying22 hi0 hz0 hz1 hz2 rfl (by decide) (.slice at' TL.length ct) TL.length (TL.map Value.string) rfl (RT.out.alloc (.cells #[.string t] 9)) ⟨wr.heap.size, 0, none⟩ 1 1 [.string t] rfl rfl (one_news wr t) (fun u hu => by simp at hu; subst hu; rfl) (by unfold maxLen; omega) (by omega) (Nat.le_trans hbw (nB wr _).size) ?_
           intro v5 w5 hown hgrow hn hat
           obtain ⟨g5, k5, rfl⟩ := row_end' hown
           obtain ⟨hap, hbx⟩ := ap_of TB.out RT.out hbw hbt hown hgrow hat
           have c5 := Boxed.cell hbx
           have f5 := Boxed.frozen hbx
           have A5 : Hid _ := hap
           obtain ⟨X, hX⟩ : ∃ X, w5.setCell ⟨Bt, 0, none⟩ (.slice (some ⟨g5, 0, none⟩) (TL.length + 1) k5) = X := ⟨_, rfl⟩
           rw [hX] at A5
           have DB2 : Hid (Boxed X Bd 22 (.slice ad TL.length cd)) := (A5.out.keep Bd DB.out.lt (fun q => n2 q.symm) (fun q => Boxed.not_row DB.out (by decide) RT.out q.symm)).trans DB.out
           have BX2 : Hid (Boxed X Bs 4 (.bool b)) := (A5.out.keep Bs BX.out.lt (fun q => n1 q.symm) (fun q => Boxed.not_row BX.out (by decide) RT.out q.symm)).trans BX.out
           have RD2 : Hid (X.ownsRow base 9 1 (.slice ad TL.length cd) TL.length ((TL.map dgF).map Value.string)) := row_same RD.out (fun k hk => A5.out.keep k (RD.out.lt k hk).2 (fun q => Boxed.not_row TB.out (by decide) RD.out (by rw [hk, q])) (fun q => NE.out k q hk))
           have cD := Boxed.cell DB2.out
           have hbX : base ≤ X.heap.size := Nat.le_trans hbw (Nat.le_of_lt A5.out.size)
           clear hown hgrow hn hat hap hbx)
        | (at_builtin; refine wpList_append_own_at _ rfl (.tmp 43) (.tmp 45) 22 rfl base 9 i0 (.string ⟨#[]⟩) 1 16 Tryd.underlying22 hi0 hz0 hz1 hz2 rfl (by decide) (.slice ad TL.length cd) TL.length ((TL.map dgF).map Value.string) rfl (RD2.out.alloc (.cells #[.string d] 9)) ⟨X.heap.size, 0, none⟩ 1 1 [.string d] rfl rfl (one_news X d) (fun u hu => by simp at hu; subst hu; rfl) (by unfold maxLen; omega) (by omega) (Nat.le_trans hbX (nB X _).size) ?_
           intro v6 w6 hown hgrow hn hat
           obtain ⟨g6, k6, rfl⟩ := row_end' hown
           obtain ⟨hap, hbx⟩ := ap_of DB2.out RD2.out hbX hbd hown hgrow hat
           have c6 := Boxed.cell hbx
           have f6 := Boxed.frozen hbx
           have A6 : Hid _ := hap
           clear hown hgrow hn hat hap hbx))
      go_ret
      have a5 := A5.out
      have a6 := A6.out
      have h1 := hash_end n1 n2 n3 TB.out DB.out BX.out RT.out RD.out NE.out HC.out HD.out a5 a6
      have h2 := K0.out.trans (kp_end n2 TB.out DB.out RT.out RD.out a5 a6)
      exact ⟨rfl, _, _, _, h1, h2⟩
end Go.Proofs.YteomefhjglnghaaDoor

/- The closure own. -/
set_option linter.unusedSimpArgs false
set_option linter.unusedVariables false
set_option maxRecDepth 100000
namespace Go.Proofs.YteomefhjglnghaaDoor
open Go.RowKit Go.Deep Go.PlainAid

/-- Where all lies. -/
structure En (base Bt Bs Bd Bh Bo : Nat) : Prop where
  n1 : Bt ≠ Bs
  n2 : Bt ≠ Bd
  n3 : Bs ≠ Bd
  ht : base ≤ Bt
  hs : base ≤ Bs
  hd : base ≤ Bd
def Sx (w0 V : World) (base Bt Bs Bd Bh Bo : Nat) (vt vd : Value) (TL : List ByteArray) (sm : Bool) : Prop := St V base Bt Bs Bd vt vd TL sm ∧ Below base w0 V ∧ base ≤ V.heap.size ∧ Boxed V Bh 48 (.func (.func 16) #[] #[.pointer (some ⟨Bt, 0, none⟩), .pointer (some ⟨Bs, 0, none⟩), .pointer (some ⟨Bd, 0, none⟩)]) ∧ Boxed V Bo 38 (.func (.func 19) #[] #[.pointer (some ⟨Bh, 0, none⟩), .pointer (some ⟨Bo, 0, none⟩)])
theorem Boxed.apart {V : World} {B C : Nat} {t u : TypeId} {x y : Value} (h : Boxed V B t x) (k : Boxed V C u y) (hne : t ≠ u) : B ≠ C := fun e => by
  subst e
  have q : some (Obj.cells #[x] t (0, 0)) = some (Obj.cells #[y] u (0, 0)) := (show V.heap[B]? = _ from h).symm.trans k
  simp at q
  exact hne q.2
theorem Sx.below {w0 V V' : World} {base Bt Bs Bd Bh Bo : Nat} {vt vd : Value} {TL : List ByteArray} {sm : Bool} (h : Sx w0 V base Bt Bs Bd Bh Bo vt vd TL sm) (hb : Below V.heap.size V V') : Sx w0 V' base Bt Bs Bd Bh Bo vt vd TL sm :=
  ⟨h.1.of_below hb, h.2.1.trans (hb.mono h.2.2.1), Nat.le_trans h.2.2.1 hb.size, box_below h.2.2.2.1 hb, box_below h.2.2.2.2 hb⟩
theorem Sx.not {w0 V : World} {base Bt Bs Bd Bh Bo : Nat} {vt vd : Value} {TL : List ByteArray} {sm : Bool} (h : Sx w0 V base Bt Bs Bd Bh Bo vt vd TL sm) {B : Nat} {t : TypeId} {v : Value} (hb : Boxed V B t v) (h1 : t ≠ 22) (h2 : t ≠ 4) (h3 : t ≠ 9) : ¬ Ft Bt Bs Bd vt vd B := by
  rintro (q | q | q | q | q)
  · exact Boxed.apart hb h.1.t h1 q
  · exact Boxed.apart hb h.1.s h2 q
  · exact Boxed.apart hb h.1.d h1 q
  · exact Boxed.not_row hb h3 h.1.rt q.symm
  · exact Boxed.not_row hb h3 h.1.rd q.symm
theorem Sx.step {w0 V V' : World} {base Bt Bs Bd Bh Bo : Nat} {vt vd vt' vd' : Value} {TL TL' : List ByteArray} {sm sm' : Bool} (E : En base Bt Bs Bd Bh Bo) (h : Sx w0 V base Bt Bs Bd Bh Bo vt vd TL sm) (hs : St V' base Bt Bs Bd vt' vd' TL' sm') (hk : Kp V V' (Ft Bt Bs Bd vt vd) (Ft Bt Bs Bd vt' vd')) : Sx w0 V' base Bt Bs Bd Bh Bo vt' vd' TL' sm' :=
  ⟨hs, h.2.1.trans (hk.below (h.1.foot E.ht E.hs E.hd) h.2.2.1), Nat.le_trans h.2.2.1 hk.size, (hk.keep Bh h.2.2.2.1.lt (h.not h.2.2.2.1 (by decide) (by decide) (by decide))).1.trans h.2.2.2.1, (hk.keep Bo h.2.2.2.2.lt (h.not h.2.2.2.2 (by decide) (by decide) (by decide))).1.trans h.2.2.2.2⟩
def XP (w0 V V' : World) (base Bt Bs Bd Bh Bo : Nat) (vt vd : Value) (TL' : List ByteArray) : Prop := ∃ vt' vd' sm', Sx w0 V' base Bt Bs Bd Bh Bo vt' vd' TL' sm' ∧ Kp V V' (Ft Bt Bs Bd vt vd) (Ft Bt Bs Bd vt' vd')
theorem hashX {w0 V : World} {base Bt Bs Bd Bh Bo : Nat} {vt vd : Value} {TL : List ByteArray} {sm : Bool} (E : En base Bt Bs Bd Bh Bo) (h : Sx w0 V base Bt Bs Bd Bh Bo vt vd TL sm) {label : ByteArray} {a : Option Addr} {c : Nat} {ps : List ByteArray} (hl : label.size ≤ 1048576) (hsz : Sz ps) (hs : SL V a ps) (hTL : TL.length ≤ 67108864) :
    Calls Tryd.prog 16 #[.string label, .slice a ps.length c, .pointer (some ⟨Bt, 0, none⟩), .pointer (some ⟨Bs, 0, none⟩), .pointer (some ⟨Bd, 0, none⟩)] V fun e V' => e = .returned (.string (tgF label ps)) ∧ XP w0 V V' base Bt Bs Bd Bh Bo vt vd (TL ++ [jnF label ps]) :=
  (hash16 E.n1 E.n2 E.n3 E.ht E.hs E.hd h.2.2.1 hl hsz hs hTL h.1).mono fun e V' ⟨he, vt', vd', sm', hst, hk⟩ => ⟨he, vt', vd', sm', h.step E hst hk, hk⟩
theorem ownT_len : ∀ (k : Nat) (l : List ByteArray), (ownT k l).length + 1 = 2 ^ (k + 1)
  | 0, l => rfl
  | k + 1, l => by
    have h1 := ownT_len k (seg l 0 (2 ^ k))
    have h2 := ownT_len k (seg l (2 ^ k) (2 ^ k))
    simp only [ownT, List.length_append, List.length_cons, List.length_nil]
    rw [Nat.pow_succ 2 (k + 1)]
    omega
/-- What own answers. -/
def OwnC (w0 : World) (base Bt Bs Bd Bh Bo k : Nat) : Prop := ∀ (l : List ByteArray) (b o c : Nat) (V : World) (vt vd : Value) (TL : List ByteArray) (sm : Bool), Sx w0 V base Bt Bs Bd Bh Bo vt vd TL sm → l.length = 2 ^ k → l.length ≤ c → c ≤ 9223372036854775807 → (∀ W, Below base w0 W → SL W (some ⟨b, o, none⟩) l) → (∀ p ∈ l, p.size ≤ 140737488355328) → TL.length + 2 ^ (k + 1) ≤ 67108864 →
    Calls Tryd.prog 19 #[.slice (some ⟨b, o, none⟩) l.length c, .pointer (some ⟨Bh, 0, none⟩), .pointer (some ⟨Bo, 0, none⟩)] V fun e V' => e = .returned (.string (dgst tgF k l)) ∧ XP w0 V V' base Bt Bs Bd Bh Bo vt vd (TL ++ ownT k l)
set_option maxHeartbeats 2000000 in
theorem own_zero {w0 : World} {base Bt Bs Bd Bh Bo : Nat} (E : En base Bt Bs Bd Bh Bo) : OwnC w0 base Bt Bs Bd Bh Bo 0 := by
  intro l b o c V vt vd TL sm h hl hc hc2 hs hsz hTL
  have hl1 : l.length = 1 := hl
  have C16 : Hid (Calls Tryd.prog 16 #[.string lEntry, .slice (some ⟨b, o, none⟩) l.length c, .pointer (some ⟨Bt, 0, none⟩), .pointer (some ⟨Bs, 0, none⟩), .pointer (some ⟨Bd, 0, none⟩)] V fun e V' => e = .returned (.string (tgF lEntry l)) ∧ XP w0 V V' base Bt Bs Bd Bh Bo vt vd (TL ++ [jnF lEntry l])) := hashX E h (by decide) ⟨by omega, hsz, fun q => by omega⟩ (hs V h.2.1) (by omega)
  have e1 : dgst tgF 0 l = tgF lEntry l := by
    cases l with
    | nil => simp at hl1
    | cons x r =>
      have : r = [] := List.length_eq_zero_iff.1 (by simpa using hl1)
      subst this
      rfl
  have e2 : ownT 0 l = [jnF lEntry l] := rfl
  rw [e1, e2]
  rw [hl1] at C16
  rw [hl1]
  have cH := Boxed.cell h.2.2.2.1
  generalize tgF lEntry l = DD at *
  generalize jnF lEntry l = JJ at *
  unfold lEntry at C16
  clear h hs hsz e1 e2 hl hl1 hc
  go_enter Tryd.func19, Tryd.ntmps19
  go_wp2_with (go_at_call 16; refine (Calls.mono C16.out) ?_; rintro e w1 ⟨rfl, hS⟩; have S1 : Hid _ := hS; clear hS)
  go_ret
  exact ⟨rfl, S1.out⟩
set_option maxHeartbeats 4000000 in
theorem own_succ {w0 : World} {base Bt Bs Bd Bh Bo : Nat} (E : En base Bt Bs Bd Bh Bo) (k : Nat) (hk : k + 1 ≤ 20) (ih : OwnC w0 base Bt Bs Bd Bh Bo k) : OwnC w0 base Bt Bs Bd Bh Bo (k + 1) := by
  intro l b o c V vt vd TL sm h hl hc hc2 hs hsz hTL
  obtain ⟨H, hH⟩ : ∃ H, H = 2 ^ k := ⟨_, rfl⟩
  have hH1 : 1 ≤ H := by rw [hH]; exact Nat.one_le_two_pow
  have hH2 : H ≤ 1048576 := by rw [hH]; exact Nat.pow_le_pow_right (n := 2) (by omega) (show k ≤ 20 by omega)
  have hN : l.length = H + H := by rw [hl, hH, Nat.pow_succ]; omega
  have hP : 2 ^ (k + 1) = H + H := by rw [Nat.pow_succ, ← hH]; omega
  have hP2 : 2 ^ (k + 1 + 1) = H + H + (H + H) := by rw [Nat.pow_succ, hP]; omega
  have o1 := ownT_len k (seg l 0 H)
  have o2 := ownT_len k (seg l H H)
  rw [hP] at o1 o2
  rw [hP2] at hTL
  have C1 : Hid (∀ W, Sx w0 W base Bt Bs Bd Bh Bo vt vd TL sm → Calls Tryd.prog 19 #[.slice (some ⟨b, o, none⟩) H c, .pointer (some ⟨Bh, 0, none⟩), .pointer (some ⟨Bo, 0, none⟩)] W fun e V' => e = .returned (.string (dgst tgF k (seg l 0 H))) ∧ XP w0 W V' base Bt Bs Bd Bh Bo vt vd (TL ++ ownT k (seg l 0 H))) := fun W hW => by
    have q := ih (seg l 0 H) b (o + 0) c W vt vd TL sm hW (by rw [seg_len (by omega), hH]) (by rw [seg_len (by omega)]; omega) hc2 (fun X hX => (hs X hX).seg (by omega)) (fun p hp => hsz p (List.mem_of_mem_drop (List.mem_of_mem_take hp))) (by rw [hP]; omega)
    rw [seg_len (by omega), Nat.add_zero] at q
    exact q
  have C2 : Hid (∀ W vt1 vd1 sm1, Sx w0 W base Bt Bs Bd Bh Bo vt1 vd1 (TL ++ ownT k (seg l 0 H)) sm1 → Calls Tryd.prog 19 #[.slice (some ⟨b, o + H, none⟩) H (c - H), .pointer (some ⟨Bh, 0, none⟩), .pointer (some ⟨Bo, 0, none⟩)] W fun e V' => e = .returned (.string (dgst tgF k (seg l H H))) ∧ XP w0 W V' base Bt Bs Bd Bh Bo vt1 vd1 (TL ++ ownT k (seg l 0 H) ++ ownT k (seg l H H))) := fun W vt1 vd1 sm1 hW => by
    have q := ih (seg l H H) b (o + H) (c - H) W vt1 vd1 _ sm1 hW (by rw [seg_len (by omega), hH]) (by rw [seg_len (by omega)]; omega) (by omega) (fun X hX => (hs X hX).seg (by omega)) (fun p hp => hsz p (List.mem_of_mem_drop (List.mem_of_mem_take hp))) (by rw [hP, List.length_append]; omega)
    rw [seg_len (by omega)] at q
    exact q
  have C3 : Hid (∀ W vt2 vd2 sm2 a, Sx w0 W base Bt Bs Bd Bh Bo vt2 vd2 (TL ++ ownT k (seg l 0 H) ++ ownT k (seg l H H)) sm2 → SL W a [dgst tgF k (seg l 0 H), dgst tgF k (seg l H H)] → Calls Tryd.prog 16 #[.string lBlock, .slice a 2 2, .pointer (some ⟨Bt, 0, none⟩), .pointer (some ⟨Bs, 0, none⟩), .pointer (some ⟨Bd, 0, none⟩)] W fun e V' => e = .returned (.string (tgF lBlock [dgst tgF k (seg l 0 H), dgst tgF k (seg l H H)])) ∧ XP w0 W V' base Bt Bs Bd Bh Bo vt2 vd2 (TL ++ ownT k (seg l 0 H) ++ ownT k (seg l H H) ++ [jnF lBlock [dgst tgF k (seg l 0 H), dgst tgF k (seg l H H)]])) := fun W vt2 vd2 sm2 a hW hS =>
    hashX E hW (by decide) ⟨by simp, fun p hp => by simp at hp; rcases hp with rfl | rfl <;> (rw [dgst_size tgF_size]; decide), fun _ p hp => by simp at hp; rcases hp with rfl | rfl <;> (rw [dgst_size tgF_size]; decide)⟩ hS (by simp only [List.length_append]; omega)
  have e1 : dgst tgF (k + 1) l = tgF lBlock [dgst tgF k (seg l 0 H), dgst tgF k (seg l H H)] := by rw [hH]; rfl
  have e2 : TL ++ ownT (k + 1) l = TL ++ ownT k (seg l 0 H) ++ ownT k (seg l H H) ++ [jnF lBlock [dgst tgF k (seg l 0 H), dgst tgF k (seg l H H)]] := by rw [hH]; simp [ownT]
  rw [e1, e2]
  generalize tgF lBlock [dgst tgF k (seg l 0 H), dgst tgF k (seg l H H)] = DD at *
  generalize jnF lBlock [dgst tgF k (seg l 0 H), dgst tgF k (seg l H H)] = JJ at *
  generalize dgst tgF k (seg l 0 H) = D1 at *
  generalize dgst tgF k (seg l H H) = D2 at *
  generalize ownT k (seg l 0 H) = T1 at *
  generalize ownT k (seg l H H) = T2 at *
  rw [hN]
  obtain ⟨N, hNN⟩ : ∃ N, N = H + H := ⟨_, rfl⟩
  rw [← hNN]
  have n1 : ((N : Int) == 1) = false := by simp; omega
  have n2 : (N : Int) / 2 = (H : Int) := by omega
  have n3 : Int.tdiv (N : Int) 2 = (H : Int) := by rw [Int.tdiv_eq_ediv_of_nonneg (by omega)]; exact n2
  have c1 : (H : Int) ≤ (c : Int) := by omega
  have c2 : (N : Int) ≤ (c : Int) := by omega
  have c3 : (H : Int) ≤ (N : Int) := by omega
  have c4 : N - H = H := by omega
  have c5 : ¬ c = H := by omega
  have HS : Hid (Sx w0 V base Bt Bs Bd Bh Bo vt vd TL sm) := h
  have HSd : Hid (Sx w0 V.drew base Bt Bs Bd Bh Bo vt vd TL sm) := h.below (Below.refl _ V).drew
  have KD : Hid (Kp V V.drew (Ft Bt Bs Bd vt vd) (Ft Bt Bs Bd vt vd)) := Kp.of_below (Below.refl _ V).drew
  have E0 : Hid (En base Bt Bs Bd Bh Bo) := E
  unfold lBlock at C3
  clear h hs hsz ih e1 e2 hl hH hNN hN hP hP2 o1 o2 hTL E
  go_enter Tryd.func19, Tryd.ntmps19
  go_wp2_with fail
  go_region_held3 (fun W => W.cell? ⟨Bo, 0, none⟩ = some (.func (.func 19) #[] #[.pointer (some ⟨Bh, 0, none⟩), .pointer (some ⟨Bo, 0, none⟩)]))
    (first | exact Boxed.cell HSd.out.2.2.2.2 | exact Boxed.cell S1.out.2.2.2.2 | exact Boxed.cell S2.out.2.2.2.2 | fail)
    (first
      | (go_at_call 19; refine (C1.out _ HSd.out).mono ?_; rintro e v1 ⟨rfl, vt1, vd1, sm1, hS, hK⟩; have S1 : Hid (Sx w0 v1 base Bt Bs Bd Bh Bo vt1 vd1 (TL ++ T1) sm1) := hS; have K1 : Hid (Kp V v1 (Ft Bt Bs Bd vt vd) (Ft Bt Bs Bd vt1 vd1)) := KD.out.trans hK; clear hS hK C1)
      | (go_at_call 19; refine (C2.out _ _ _ _ S1.out).mono ?_; rintro e v2 ⟨rfl, vt2, vd2, sm2, hS, hK⟩; have S2 : Hid (Sx w0 v2 base Bt Bs Bd Bh Bo vt2 vd2 (TL ++ T1 ++ T2) sm2) := hS; have K2 : Hid (Kp V v2 (Ft Bt Bs Bd vt vd) (Ft Bt Bs Bd vt2 vd2)) := K1.out.trans hK; clear hS hK C2)
      | fail)
  all_goals (have cH := Boxed.cell S2.out.2.2.2.1)
  all_goals (have S3 : Hid (Sx w0 (v2.alloc (.cells #[.string D1, .string D2] 9)) base Bt Bs Bd Bh Bo vt2 vd2 (TL ++ T1 ++ T2) sm2) := S2.out.below (nB v2 _))
  all_goals (have L3 : Hid (SL (v2.alloc (.cells #[.string D1, .string D2] 9)) (some ⟨v2.heap.size, 0, none⟩) [D1, D2]) := IHolds.sl (l := [D1, D2]) (IHolds.new v2 9 [.string D1, .string D2]))
  all_goals (have K3 : Hid (Kp V (v2.alloc (.cells #[.string D1, .string D2] 9)) (Ft Bt Bs Bd vt vd) (Ft Bt Bs Bd vt2 vd2)) := K2.out.trans (Kp.of_below (nB v2 _)))
  all_goals (go_wp2_with (go_at_call 16; refine (C3.out _ _ _ _ _ S3.out L3.out).mono ?_; rintro e v4 ⟨rfl, vt4, vd4, sm4, hS, hK⟩; have S4 : Hid _ := hS; have K4 : Hid (Kp V v4 (Ft Bt Bs Bd vt vd) (Ft Bt Bs Bd vt4 vd4)) := K3.out.trans hK; clear hS hK))
  all_goals go_ret
  all_goals exact ⟨rfl, _, _, _, S4.out, K4.out⟩
theorem own19 {w0 : World} {base Bt Bs Bd Bh Bo : Nat} (E : En base Bt Bs Bd Bh Bo) : ∀ k, k ≤ 20 → OwnC w0 base Bt Bs Bd Bh Bo k
  | 0, _ => own_zero E
  | k + 1, h => own_succ E k h (own19 E k (by omega))
end Go.Proofs.YteomefhjglnghaaDoor

