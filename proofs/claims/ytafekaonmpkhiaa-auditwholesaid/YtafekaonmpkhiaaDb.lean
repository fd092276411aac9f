/- plain.Boxes, whole. -/
import Derived.Test.YtafekaonmpkhiaaDa
set_option linter.unusedSimpArgs false
set_option linter.unusedVariables false
set_option maxRecDepth 100000
namespace Go.Proofs.Ytafekaonmpkhiaa
open Go.RowKit Go.Shelf Go.Deep Go.PlainAid Go.Maps Go.WideMaps

attribute [local go_sem] Oper.semAt_some

/-- The block of a list of batches holds batches. -/
def BT (V : World) (v : Value) : Prop := ∀ b o n c, v = .slice (some ⟨b, o, none⟩) n c → ∃ cur, V.heap[b]? = some (.cells cur 38)
theorem bt_of_own {V : World} {base size n : Nat} {v : Value} {xs : List Value} (h : V.ownsRow base 38 size v n xs) : BT V v := by
  intro b o n' c e
  rcases h.2 with ⟨hn, -⟩ | ⟨g', cap, cur, hv, hbg, hc, rest⟩
  · rw [hn] at e; cases e
  · rw [hv] at e; cases e
    exact ⟨_, hc⟩
theorem BT.of_grown {U V : World} {v : Value} {row : Option Nat} (h : BT U v) (g : U.grownBy V row) (hr : ∀ b o n c, v = .slice (some ⟨b, o, none⟩) n c → row ≠ some b) : BT V v := by
  intro b o n c e
  obtain ⟨cur, hc⟩ := h b o n c e
  exact ⟨cur, (g.block b (Array.getElem?_eq_some_iff.1 hc).1 (fun q => hr b o n c e q.symm)).trans hc⟩
theorem BT.of_below {U V : World} {v : Value} (h : BT U v) (g : Below U.heap.size U V) : BT V v := by
  intro b o n c e
  obtain ⟨cur, hc⟩ := h b o n c e
  exact ⟨cur, (g.block b (Array.getElem?_eq_some_iff.1 hc).1).trans hc⟩
theorem BT.turn {V : World} {v : Value} {D : Nat} {o o' : Obj} (h : BT V v) (hk : V.heap[D]? = some o) (ho : o.isCells = false) : BT (V.putObj D o') v := by
  intro b x n c e
  obtain ⟨cur, hc⟩ := h b x n c e
  exact ⟨cur, (World.putObj_heap_other (fun q => by subst q; rw [hc] at hk; cases hk; cases ho)).trans hc⟩
theorem ih_turn {V : World} {D l' : Nat} {e : TypeId} {xs : List Value} {o o' : Obj} (h : IHolds V D e xs) (hk : V.heap[l']? = some o) (ho : o.isCells = false) : IHolds (V.putObj l' o') D e xs :=
  (World.putObj_heap_other (fun q => by subst q; have h' : V.heap[D]? = some (.cells xs.toArray e) := h; rw [h'] at hk; cases hk; cases ho)).trans h
theorem lb_no {U : World} {lb j : Nat} {p : Option Addr} {q r : Nat} {s : ByteArray} (h : IHolds U lb 30 [.slice p q r]) (hc : U.cell? ⟨lb, j, none⟩ = some (.string s)) : False := by
  have h' : U.heap[lb]? = some (.cells #[.slice p q r] 30) := h
  unfold World.cell? at hc
  rw [h'] at hc
  cases j with
  | zero => simp at hc
  | succ j => simp at hc
theorem BL.of_grown {U V : World} {lb : Nat} {p : Option Addr} {q r : Nat} {v : Value} {l : List Hd} {ns : List ByteArray} (h : BL U v l ns) (hl : IHolds U lb 30 [.slice p q r]) (g : U.grownBy V (some lb)) : BL V v l ns := by
  obtain ⟨a, c, e, qq⟩ := h
  refine ⟨a, c, e, fun i hi j hj => ?_⟩
  obtain ⟨b, o, e1, e2⟩ := qq i hi j hj
  obtain ⟨b0, o0, f1, f2⟩ := qq i hi 0 (by omega)
  refine ⟨b, o, e1, gcell g e2 fun eb => ?_⟩
  rw [e1] at f1
  cases f1
  subst eb
  exact lb_no hl f2
theorem BL.turn {V : World} {v : Value} {l : List Hd} {ns : List ByteArray} {D : Nat} {o o' : Obj} (h : BL V v l ns) (hk : V.heap[D]? = some o) (ho : o.isCells = false) : BL (V.putObj D o') v l ns := by
  obtain ⟨a, c, e, q⟩ := h
  refine ⟨a, c, e, fun i hi j hj => ?_⟩
  obtain ⟨b, x, e1, e2⟩ := q i hi j hj
  refine ⟨b, x, e1, (World.cell?_of_block (a := ⟨b, x + (i * 4 + j), none⟩) (World.putObj_heap_other fun hb => ?_)).trans e2⟩
  have hb' : b = D := hb
  subst hb'
  unfold World.cell? at e2
  simp only [hk] at e2
  cases o <;> simp_all [Obj.isCells]
theorem below_turn {r D : Nat} {U V : World} {o : Obj} (h : Below r U V) (hD : r ≤ D) : Below r U (V.putObj D o) :=
  ⟨h.os, h.tape, h.output, by have := h.size; simpa [World.putObj] using this, fun k hk => (World.putObj_heap_other (by omega)).trans (h.block k hk)⟩
theorem IA.lb {U V : World} {lb k : Nat} {l : List Hd} {ns : List ByteArray} {v : Value} (h : IA U V lb l ns k v) : ∃ p q r, v = .slice p q r := by
  rcases h.ow.2 with ⟨hn, -⟩ | ⟨g', cap, cur, hv, -⟩
  · exact ⟨_, _, _, hn⟩
  · exact ⟨_, _, _, hv⟩
set_option maxHeartbeats 8000000 in
theorem boxes8 {l : List Hd} {cb bm bs : Nat} {w : World} (hc : CU w cb bm bs l) (hi : Inv1 l) :
    Calls Try.prog 8 #[.pointer (some ⟨cb, 0, none⟩)] w fun e w' => (∃ v, e = .returned (.tuple #[v, .bool true]) ∧ BL w' v l (sn (packs l)) ∧ BT w' v) ∧ Below w.heap.size w w' := by
  have HC : Hid (CallsIn Fence.wide (3 - 1) Try.prog 20 #[.pointer (some ⟨cb, 0, none⟩)] (w.alloc (.cells #[.slice none 0 0] 30)) _) := callsIn_wide.2 (boxes20 (hc.of_below ((Below.refl _ w).alloc (Nat.le_refl _) _)) hi)
  have f20 : Fence.wide.fn 20 := trivial
  have f42 : Fence.wide.fn 42 := trivial
  have NL : Hid ((sn (packs l)).length ≤ 256) := by show _ ≤ _; rw [(sn_perm _).length_eq]; exact hi.few
  have hmf : ∀ (fn : Fn) (first cap : Array Value) (w : World), (Instr.makeFunc fn first cap).run Try.prog w = .ok (.func fn first cap) w := fun _ _ _ _ => rfl
  clear hc hi
  refine (callsIn_wide (n := 3)).1 ?_
  refine callsIn_of_wp_marks Try.func8 rfl trivial ?_ rfl
  simp only [Try.ntmps8, List.size_toArray, List.length_cons, List.length_nil, Nat.reduceAdd, Nat.reduceSub, Array.replicate_succ, Array.replicate_zero, List.push_toArray, List.append_toArray, List.nil_append, List.cons_append]
  gi_wp2_with (gi_at_call 20; refine (HC.out).mono ?_)
  rintro e U ⟨⟨vb, v0, rfl, hvb, hI, hB⟩, hbl⟩
  have hvs : w.heap.size < vb := by have := hvb; simp at this; omega
  have L0 : Hid (IHolds U w.heap.size 30 [.slice none 0 0]) := (IHolds.new w 30 [.slice none 0 0]).of_below hbl
  have V0 : Hid (IHolds U vb 30 [v0]) := hI
  have B0 : Hid (BL U v0 l (sn (packs l))) := hB
  have US : Hid (w.heap.size + 1 ≤ U.heap.size) := by have := hbl.size; show _ ≤ _; simpa using this
  have BW : Hid (Below w.heap.size w U) := ((Below.refl w.heap.size w).alloc (Nat.le_refl _) (.cells #[.slice none 0 0] 30)).trans (hbl.mono (by simp))
  clear hvb hI hB hbl HC f20
  have I0 : Hid (IA U U w.heap.size l (sn (packs l)) 0 (.slice none 0 0)) := ⟨World.grownBy.refl _ _, by have := US.out; omega, L0.out, ⟨by simp [rowsB], .inl ⟨rfl, rfl⟩⟩⟩
  have SEE : Hid (∀ k V, (∃ v, IA U V w.heap.size l (sn (packs l)) k v) → V.cell? ⟨vb, 0, none⟩ = some v0 ∧ BL V v0 l (sn (packs l))) := fun k V ⟨v, h⟩ => ⟨gcell h.gr (V0.out.cell 0 (by simp)) (by omega), B0.out.of_grown L0.out h.gr⟩
  gi_wp2
  refine range_rounds2 (n := 3) (by omega) (gf := 42) (lb := #[.pointer (some ⟨vb, 0, none⟩)]) rfl (enters_of Try.func42 (by kernel_rfl) rfl) (encs := encV l (sn (packs l))) (N := (sn (packs l)).length) (fun _ => rfl)
    (I := fun k V => ∃ v, IA U V w.heap.size l (sn (packs l)) k v)
    (fun k => ⟨fun V o ⟨v, h⟩ => ⟨v, h.lay o⟩, fun V l' o o' ⟨v, h⟩ hl hk ho => ⟨v, h.turn hl hk ho⟩⟩)
    ⟨_, I0.out⟩
    (values42_yield l (sn (packs l)) NL.out vb v0 SEE.out)
    (fun k D => ⟨#[.pointer (some ⟨cb, 0, none⟩), undef, .slice none 0 0, .bool false, .pointer (some ⟨w.heap.size, 0, none⟩), .func (.func 42) #[] #[.pointer (some ⟨vb, 0, none⟩)], .pointer (some ⟨D, 0, none⟩), undef, undef, undef, .pointer (some ⟨cb, 0, none⟩), .func (.func 42) #[] #[.pointer (some ⟨vb, 0, none⟩)], .func (.func 42) #[] #[.pointer (some ⟨vb, 0, none⟩)], .agg #[.string (nth (sn (packs l)) k), .int .i64 (bx l (nth (sn (packs l)) k)).count, .string (bx l (nth (sn (packs l)) k)).holder, .string (bx l (nth (sn (packs l)) k)).sl], undef, undef, undef, undef, undef, undef, undef, undef, undef], []⟩)
    (I2 := fun k D V => (∃ v, IA U V w.heap.size l (sn (packs l)) k v) ∧ IHolds V D 38 (encB l (nth (sn (packs l)) k)))
    (fun k D => ⟨fun V o ⟨⟨v, h⟩, h2⟩ => ⟨⟨v, h.lay o⟩, h2.alloc o⟩, fun V l' o o' ⟨⟨v, h⟩, h2⟩ hl hk ho => ⟨⟨v, h.turn hl hk ho⟩, ih_turn h2 hk ho⟩⟩)
    ?assign ?body ?done
  case assign =>
    intro l' k V K hk hIA hK
    have HKK := hK V.heap.size (V.alloc (.cells (encB l (nth (sn (packs l)) k)).toArray 38)) ((KeepsOthers.alloc _ _).from _) ⟨(by obtain ⟨v, h⟩ := hIA; exact ⟨v, h.lay _⟩), IHolds.new V 38 _⟩
    clear hIA hK
    dsimp only [encV, encB] at HKK ⊢
    gi_wp2
    exact HKK
  case body =>
    rintro l' k D V hk ⟨⟨v, h⟩, h2⟩
    refine wpIn_mono (round8 h h2 hk NL.out) ?_
    rintro e aa V' ⟨h1, h3, h4⟩
    exact ⟨h1, ⟨h3.size, fun i o _ hi ho => h3.same i o (Nat.zero_le _) hi ho⟩, h4⟩
  case done =>
    rintro D V hD ⟨v, h⟩ hd
    obtain ⟨p, q, r, rfl⟩ := h.lb
    have hIH := SEE.out _ _ ⟨_, h⟩
    have hlt := h.lt
    have us := h.gr.size
    have hb8 : BL V (.slice p q r) l (sn (packs l)) := by
      have := h.ow
      rw [List.take_length] at this
      exact bl_of_own this
    have HV : Hid (IHolds V w.heap.size 30 [.slice p q r]) := h.h
    have HB : Hid (BL V (.slice p q r) l (sn (packs l))) := hb8
    have BV : Hid (Below w.heap.size w V) := ⟨h.gr.os.trans BW.out.os, h.gr.tape.trans BW.out.tape, h.gr.output.trans BW.out.output, Nat.le_trans BW.out.size us, fun k hk => (h.gr.block k (by omega) (fun e => by cases e; omega)).trans (BW.out.block k hk)⟩
    have HD : Hid (V.heap[D]? = some (.deferred (some []))) := hd
    have DV : Hid (D < V.heap.size) := (Array.getElem?_eq_some_iff.1 hd).1
    have H42 : Hid (∀ kb ob nb W, JB V W kb ob nb 0 true → CallsIn Fence.wide (3 - 1) Try.prog 42 #[.func (.func 21) #[] #[.pointer (some ⟨ob, 0, none⟩), .pointer (some ⟨nb, 0, none⟩), .pointer (some ⟨kb, 0, none⟩), .pointer (some ⟨w.heap.size, 0, none⟩)], .pointer (some ⟨vb, 0, none⟩)] W fun e V' => (∃ v, e = .returned v) ∧ ∃ k b, JB V V' kb ob nb k b) := fun kb ob nb W hW =>
      callsIn_wide.2 (values42_fn l (sn (packs l)) NL.out vb v0 _ _ _ _ (fun k b W' => JB V W' kb ob nb k b) (fun k b W' hJ => ⟨cell_keep hIH.1 hJ.bl, hIH.2.of_below hJ.bl⟩) (fun k b W' o hJ => hJ.lay o) W (fun k W' hk hJ => boxes21 HV.out HB.out NL.out hk hJ) hW)
    have J0 : Hid (JB V (((V.alloc (.cells #[.int .i64 ((0 : Nat) : Int)] 3)).alloc (.cells #[.bool true] 4)).alloc (.cells #[.bool false] 4)) V.heap.size (V.heap.size + 1) (V.heap.size + 2) 0 true) := by
      have i1 := IHolds.new V 3 [.int .i64 ((0 : Nat) : Int)]
      have i2 := IHolds.new (V.alloc (.cells #[.int .i64 ((0 : Nat) : Int)] 3)) 4 [.bool true]
      have i3 := IHolds.new ((V.alloc (.cells #[.int .i64 ((0 : Nat) : Int)] 3)).alloc (.cells #[.bool true] 4)) 4 [.bool false]
      simp only [World.size_alloc] at i2 i3
      exact ⟨(((Below.refl _ V).alloc (Nat.le_refl _) _).alloc (by simp) _).alloc (by simp; omega) _, (i1.alloc _).alloc _, i2.alloc _, i3, by omega, by omega, by omega, by omega, by omega, by omega⟩
    have HT : Hid (BT V (.slice p q r)) := bt_of_own h.ow
    have DW : Hid (w.heap.size ≤ D) := by have := US.out; show _ ≤ _; omega
    clear h hIH hb8 us hd SEE I0 B0 L0 BW US hlt
    gi_wp2_with (gi_at_call 42; refine (H42.out V.heap.size (V.heap.size + 1) (V.heap.size + 2) _ J0.out).mono ?_)
    rintro e X ⟨⟨x, rfl⟩, k, b, hX⟩
    have HX : Hid (JB V X V.heap.size (V.heap.size + 1) (V.heap.size + 2) k b) := hX
    have x1 := (HV.out.of_below hX.bl).cell 0 (by simp)
    have x2 := hX.o.cell 0 (by simp)
    clear hX H42 J0
    gi_wp2
    refine wpIn_wide.2 ?_
    refine Code.wp_mono (Q := fun e aa ww => match e with | .normal => (?R : Act → World → Prop) aa ww | _ => False) ?next ?here
    case next =>
      intro ex aa ww hh
      cases ex with
      | normal => exact hh
      | _ => exact hh.elim
    case here =>
      refine rz8_wp x1 x2 (fun _ _ _ _ h => h) ?_
      intro u21 u22
      dsimp only
      gi_wp2
      have HD2 : X.drew.heap[D]? = some (.deferred (some [])) := (HX.out.bl.block D DV.out).trans HD.out
      have hbx : BL X.drew (.slice p q r) l (sn (packs l)) := HB.out.of_below HX.out.bl.drew
      have htx : BT X.drew (.slice p q r) := HT.out.of_below HX.out.bl.drew
      have hwx : Below w.heap.size w X.drew := (BV.out.trans (HX.out.bl.mono BV.out.size)).drew
      refine ⟨by simp, .inl ⟨_, _, rfl, run_takeDeferred HD2, ?_⟩⟩
      exact ⟨_, results_tmp2 rfl _ _ _, ⟨_, rfl, hbx.turn HD2 rfl, htx.turn HD2 rfl⟩, below_turn hwx DW.out⟩
end Go.Proofs.Ytafekaonmpkhiaa
