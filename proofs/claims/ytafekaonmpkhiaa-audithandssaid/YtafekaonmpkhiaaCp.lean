/- Boxes. -/
import Derived.Test.YtafekaonmpkhiaaCo
import Derived.Maps.AppendAt
set_option linter.unusedSimpArgs false
set_option linter.unusedVariables false
set_option maxRecDepth 100000
namespace Go.Proofs.Ytafekaonmpkhiaa
open Go.Maps Go.WideMaps Go.RowKit Go.Deep Go.PlainAid

theorem cells_new (W : World) (xs : List Value) (t : TypeId) : ∀ j u, xs[j]? = some u → (W.alloc (.cells xs.toArray t)).cell? ((⟨W.heap.size, 0, none⟩ : Addr).add j) = some u := fun j u hu => by
  have hj : j < xs.length := (List.getElem?_eq_some_iff.1 hu).1
  have q := (IHolds.new W t xs).cell j hj
  have e : ((⟨W.heap.size, 0, none⟩ : Addr).add j) = ⟨W.heap.size, j, none⟩ := by by_cases z : j = 0 <;> simp [Addr.add, z]
  rw [e, q]
  rw [← hu, List.getElem?_eq_getElem hj]
theorem key_inv {key : Value} {kl : Lit} (h : keyOf Try.prog 9 key = some kl) : ∃ x : ByteArray, key = .string x ∧ kl = ky x := by
  cases key <;> simp [keyOf, Try.underlying9, mapKey] at h
  exact ⟨_, rfl, h.2.symm⟩
theorem own_far {w w' : World} {base n size : Nat} {v : Value} {xs : List Value} {e : TypeId} (h : w.ownsRow base e size v n xs) (hk : ∀ g, v.ownBlock = some g → w'.heap[g]? = w.heap[g]?) : w'.ownsRow base e size v n xs := by
  refine ⟨h.1, ?_⟩
  rcases h.2 with hn | ⟨g, cap, cur, hv, hbg, hc, rest⟩
  · exact .inl hn
  · exact .inr ⟨g, cap, cur, hv, hbg, by rw [hk g (by rw [hv]; rfl)]; exact hc, rest⟩
theorem below_grown2 {r : Nat} {U V V' : World} {row : Option Nat} (h : Below r U V) (g : V.grownBy V' row) (hr : r ≤ V.heap.size) (hne : ∀ k, row = some k → r ≤ k) : Below r U V' :=
  ⟨g.os.trans h.os, g.tape.trans h.tape, g.output.trans h.output, Nat.le_trans h.size g.size, fun k hk => (g.block k (Nat.lt_of_lt_of_le hk hr) (fun e => by have := hne k e.symm; omega)).trans (h.block k hk)⟩
set_option maxHeartbeats 8000000 in
theorem collect20 {l : List Hd} {cb bm bs : Nat} {w : World} (hc : CU w cb bm bs l) (hi : Inv1 l) {R : Value → World → Prop}
    (HT : ∀ (ns : List ByteArray) v V, ns.Perm (packs l) → V.ownsRow (w.heap.size + 1) 38 4 v ns.length (rowsB l ns) → Below w.heap.size w V → w.heap.size + 1 ≤ V.heap.size →
      Calls Try.prog 34 #[v, .func (.func 35) #[] #[]] V fun e w' => e = .returned (.tuple #[]) ∧ ∃ a c, v = .slice a ns.length c ∧ Below w.heap.size w w' ∧ R v w')
    (HV : ∀ a n c V, Calls Try.prog 37 #[.slice a n c] V fun e w' => e = .returned (.func (.func 42) #[] #[.pointer (some ⟨V.heap.size, 0, none⟩)]) ∧ IHolds w' V.heap.size 30 [.slice a n c] ∧ Below V.heap.size V w')
    (HR : ∀ v V V', R v V → Below V.heap.size V V' → R v V') :
    Calls Try.prog 20 #[.pointer (some ⟨cb, 0, none⟩)] w fun e w' => (∃ vb v, e = .returned (.func (.func 42) #[] #[.pointer (some ⟨vb, 0, none⟩)]) ∧ w.heap.size ≤ vb ∧ IHolds w' vb 30 [v] ∧ R v w') ∧ Below w.heap.size w w' := by
  obtain ⟨n, D, m1, m2⟩ := hc.m
  have c0 : w.cell? ⟨cb, 0, none⟩ = some (.map (some bm)) := hc.c.cell 0 (by simp)
  obtain ⟨i0, hi0, hz0, hz1, hz2⟩ := info38
  have hbm : bm < w.heap.size := m1.lt
  have few := hi.few
  have HI : Hid (Inv1 l) := hi
  have HM : Hid (RepB D l) := m2
  have HTT : Hid (∀ (ns : List ByteArray) v V, ns.Perm (packs l) → V.ownsRow (w.heap.size + 1) 38 4 v ns.length (rowsB l ns) → Below w.heap.size w V → w.heap.size + 1 ≤ V.heap.size →
      Calls Try.prog 34 #[v, .func (.func 35) #[] #[]] V fun e w' => e = .returned (.tuple #[]) ∧ ∃ a c, v = .slice a ns.length c ∧ Below w.heap.size w w' ∧ R v w') := HT
  have HVV : Hid (∀ a n c V, Calls Try.prog 37 #[.slice a n c] V fun e w' => e = .returned (.func (.func 42) #[] #[.pointer (some ⟨V.heap.size, 0, none⟩)]) ∧ IHolds w' V.heap.size 30 [.slice a n c] ∧ Below V.heap.size V w') := HV
  have HRR : Hid (∀ v V V', R v V → Below V.heap.size V V' → R v V') := HR
  clear hc hi m2 HT HV HR
  go_enter Try.func20, Try.ntmps20
  go_wp2_with (first
    | (at_range; refine wpList_range_own _ rfl _ 42 rfl 9 68 law Try.underlying42 Rv bm n D rfl m1 ?_; intro w0 hrg0 hg0 hs0)
    | fail)
  go_frame
  have S0 : Hid (CO w w0 bm w.heap.size n l D (Maps.has D) (Maps.size D) [] (.slice none 0 0)) := CO.start HM.out few hrg0 ⟨hg0.os, hg0.tape, hg0.output, hg0.size, fun k hk => hg0.block k hk (by simp)⟩ (by omega)
  clear hrg0 hg0 hs0 m1 c0 few
  go_loopg [3, 5] (Maps.size D) (fun gk v3 v5 wr => ∃ (left : Lit → Bool) (ns : List ByteArray) (v : Value), v = v3 ∧ CO w wr bm w.heap.size n l D left gk ns v)
  case atStart => exact ⟨_, [], _, rfl, S0.out⟩
  case round =>
    clear S0
    obtain ⟨left, ns, v, rfl, hco⟩ := hrel
    have HC : Hid (CO w wr bm w.heap.size n l D left gk ns v) := hco
    have hrg := hco.rg
    clear hco
    go_wp2_with (first
      | (at_next; refine wpList_next_ranges _ rfl _ rfl 9 law Rv Value.string (fun v : Value => v) (fun key kl h => by obtain ⟨x, q, _⟩ := key_inv h; exact ⟨x, q⟩) (fun v y _ => ⟨v, rfl⟩) bm w.heap.size n _ _ _ rfl hrg ?_ ?_)
      | fail)
    · intro _ hl0
      have hl1 := hl0
      have hp := HC.out.perm HI.out hl0
      have C34 := HTT.out ns v wr hp HC.out.own HC.out.bl HC.out.sz
      have H34 : Hid (Calls Try.prog 34 #[v, .func (.func 35) #[] #[]] wr fun e w' => e = .returned (.tuple #[]) ∧ ∃ a c, v = .slice a ns.length c ∧ Below w.heap.size w w' ∧ R v w') := C34
      clear C34 hp hl0 hl1 hrg HC HTT
      go_wp2_with (go_at_call 34; refine (H34.out).mono ?_)
      rintro e w1 ⟨rfl, a, c, rfl, hB, hR⟩
      have B1 : Hid (Below w.heap.size w w1) := hB
      have R1 : Hid (R (.slice a ns.length c) w1) := hR
      clear hB hR H34
      generalize ns.length = N at *
      go_wp2_with (go_at_call 37; refine (HVV.out a N c _).mono ?_)
      rintro e w2 ⟨rfl, hI, hB⟩
      have B2 : Hid (Below w.heap.size w w2) := B1.out.trans (hB.mono B1.out.size)
      have R2 : Hid (R (.slice a N c) w2) := HRR.out _ _ _ R1.out hB
      have I2 : Hid (IHolds w2 w1.heap.size 30 [.slice a N c]) := hI
      have SZ : Hid (w.heap.size ≤ w1.heap.size) := B1.out.size
      clear hI hB R1 B1
      go_wp2_with fail
      go_ret
      exact ⟨⟨_, _, rfl, SZ.out, I2.out, R2.out⟩, B2.out⟩
    · intro x c kl yd yp w1 cnt1 hkey hlk hv hat hrg1 hlt hg1 hs1 hen
      obtain ⟨x', ex, rfl⟩ := key_inv hkey
      cases ex
      have hh := Maps.has_true_of_atKey hat
      rw [HM.out.has] at hh
      have hval := HM.out.val x hh (.agg [])
      rw [hat] at hval
      simp only [Rv, Option.some.injEq, Prod.mk.injEq] at hv
      rw [← hv.1] at hval
      have ec : c = BV x (bx l x) := by simpa using hval
      subst ec
      have HOK : Hid ((bx l x).ok = true) := hh
      have HLK : Hid (left (ky x) = true) := hlk
      have HLT : Hid (cnt1 < gk) := hlt
      have RG1 : Hid (w1.ranges Try.prog 9 Rv bm w.heap.size n D (fun z => left z && !z.sameKey (ky x)) cnt1) := hrg1
      have SZ1 : Hid (w.heap.size + 1 ≤ w1.heap.size) := by have := HC.out.sz; show _ ≤ _; omega
      have BL1 : Hid (Below w.heap.size w w1) := below_grown2 HC.out.bl hg1 (by have := HC.out.sz; omega) (fun k hk => by cases hk; omega)
      have OW1 : Hid (w1.ownsRow (w.heap.size + 1) 38 4 v ns.length (rowsB l ns)) := own_far HC.out.own (fun g hg => hg1.block g (HC.out.own.lt g hg).2 (fun e => by cases e; have := (HC.out.own.lt _ hg).1; omega))
      have EN : Hid (encB l x = [.string x, .int .i64 (bx l x).count, .string (bx l x).holder, .string (bx l x).sl]) := rfl
      have L2 := HC.out.lt256
      have HEN : Hid ((Instr.entry (.pointer (some ⟨w.heap.size, 0, none⟩))).run Try.prog w1 = .ok (.tuple #[.string x, .agg #[.string x, .int .i64 (bx l x).count, .string (bx l x).holder, .string (bx l x).sl, .int .i64 (stZ (bx l x)), .string (bx l x).under]]) w1) := hen
      have EV : BV x (bx l x) = .agg #[.string x, .int .i64 (bx l x).count, .string (bx l x).holder, .string (bx l x).sl, .int .i64 (stZ (bx l x)), .string (bx l x).under] := rfl
      rw [EV]
      clear EV hkey hlk hv hat hrg1 hlt hg1 hs1 hen hh hval hrg HTT HVV HRR
      generalize (bx l x).count = y1 at *
      generalize (bx l x).holder = y2 at *
      generalize (bx l x).sl = y3 at *
      generalize stZ (bx l x) = y4 at *
      generalize (bx l x).under = y5 at *
      have hen := HEN.out
      clear HEN
      have OW3 : Hid (((w1.alloc (.cells #[.string x, .int .i64 y1, .string y2, .string y3, .int .i64 y4, .string y5] 68)).alloc (.cells #[.string x, .int .i64 y1, .string y2, .string y3] 38)).ownsRow (w.heap.size + 1) 38 4 v ns.length (rowsB l ns)) := (OW1.out.alloc _).alloc _
      have NEWS : Hid (∀ j u, ([.string x, .int .i64 y1, .string y2, .string y3] : List Value)[j]? = some u → ((w1.alloc (.cells #[.string x, .int .i64 y1, .string y2, .string y3, .int .i64 y4, .string y5] 68)).alloc (.cells #[.string x, .int .i64 y1, .string y2, .string y3] 38)).cell? ((⟨(w1.alloc (.cells #[.string x, .int .i64 y1, .string y2, .string y3, .int .i64 y4, .string y5] 68)).heap.size, 0, none⟩ : Addr).add j) = some u) := cells_new _ [.string x, .int .i64 y1, .string y2, .string y3] 38
      have SZ3 : Hid ((w1.alloc (.cells #[.string x, .int .i64 y1, .string y2, .string y3, .int .i64 y4, .string y5] 68)).heap.size = w1.heap.size + 1) := by show _ = _; simp
      rw [SZ3.out] at NEWS
      go_wp2_with (at_builtin; refine wpList_append_own _ rfl (.tmp 15) (.tmp 18) 30 rfl (w.heap.size + 1) 38 i0 (.agg #[.string ⟨#[]⟩, .int .i64 0, .string ⟨#[]⟩, .string ⟨#[]⟩]) 4 56 Try.underlying30 hi0 hz0 hz1 hz2 rfl (by decide) v ns.length (rowsB l ns) rfl OW3.out ⟨w1.heap.size + 1, 0, none⟩ 1 1 [.string x, .int .i64 y1, .string y2, .string y3] rfl rfl NEWS.out (fun u hu => by simp at hu; rcases hu with rfl | rfl | rfl | rfl <;> rfl) (by unfold maxLen; omega) (by omega) (by have := SZ1.out; simp; omega) ?_; intro v9 w9 hown1 hgrow1 hn1; have OW9 : Hid (w9.ownsRow (w.heap.size + 1) 38 4 v9 (ns.length + 1) (rowsB l ns ++ [.string x, .int .i64 y1, .string y2, .string y3])) := hown1; have GR9 : Hid (((w1.alloc (.cells #[.string x, .int .i64 y1, .string y2, .string y3, .int .i64 y4, .string y5] 68)).alloc (.cells #[.string x, .int .i64 y1, .string y2, .string y3] 38)).grownBy w9 v.ownBlock) := hgrow1; clear hown1 hgrow1 hn1)
      have lo : ∀ k, v.ownBlock = some k → w.heap.size + 1 ≤ k := fun k hk => (OW1.out.lt k hk).1
      have RN := RG1.out.ne
      have RL := RG1.out.lt
      have BM : Hid (bm < w.heap.size) := hbm
      have R9 : Hid (w9.ranges Try.prog 9 Rv bm w.heap.size n D (fun z => left z && !z.sameKey (ky x)) cnt1) := ((RG1.out.alloc _).alloc _).kept GR9.out (fun e => by have := lo _ e.symm; have := BM.out; omega) (fun e => by have := lo _ e.symm; omega)
      have B9 : Hid (Below w.heap.size w w9) := below_grown2 ((BL1.out.alloc BL1.out.size _).alloc (Nat.le_trans BL1.out.size (by simp)) _) GR9.out (Nat.le_trans BL1.out.size (by simp; omega)) (fun k hk => by have := lo k hk; omega)
      have S9 : Hid (w.heap.size + 1 ≤ w9.heap.size) := Nat.le_trans (Nat.le_trans SZ1.out (by simp; omega)) GR9.out.size
      clear lo RN RL
      go_roundg cnt1
      case measure => exact HLT.out
      case rel => exact ⟨_, ns ++ [x], v9, rfl, CO.app (W := w) HC.out HOK.out HLK.out HLT.out R9.out (by rw [EN.out]; exact OW9.out) B9.out S9.out⟩
end Go.Proofs.Ytafekaonmpkhiaa
