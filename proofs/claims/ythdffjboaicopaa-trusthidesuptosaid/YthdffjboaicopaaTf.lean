/- The law TrustHides, walked with what Through answers. -/
import Derived.Test.YthdffjboaicopaaTe
import Derived.Laws.AppendOwn
set_option linter.unusedSimpArgs false
set_option linter.unusedVariables false
set_option maxRecDepth 100000
namespace Go.Proofs.Ythdffjboaicopaa
open Go.RowKit Go.Deep Go.PlainAid

section
variable {P : Program}
/-- What is appended may be nothing. -/
theorem run_append_opt (w : World) (base : Nat) (t ty e : TypeId) (i : TypeInfo) (z : Value) (size bytes : Nat) (ht : P.underlying t = some (.slice e)) (hi : P.info? e = some i) (hz : i.zero = some z)
    (hsize : i.size = size) (hby : i.bytes = bytes) (hzs : z.cells.size = size) (hsz : 0 < size)
    (v : Value) (n : Nat) (xs : List Value) (hown : w.ownsRow base e size v n xs)
    (a : Option Addr) (m c : Nat) (news : List Value) (hl : news.length = m * size) (hnn : a = none → m = 0 ∧ c = 0) (hnews : ∀ ad, a = some ad → ∀ j u, news[j]? = some u → w.cell? (ad.add j) = some u) (h1 : ∀ u ∈ news, u.oneCell' = true)
    (h63 : n + m ≤ maxLen) (hbytes : (n + m) * bytes ≤ 140737488355328) (hbase : base ≤ w.heap.size) :
    ∃ v' w', (Builtin.append_ #[t, t] ty #[v, .slice a m c]).run P w = .ok v' w' ∧ w'.ownsRow base e size v' (n + m) (xs ++ news) ∧ w.grownBy w' v.ownBlock ∧
      (v' = .slice none 0 0 ↔ v = .slice none 0 0 ∧ m = 0) := by
  cases a with
  | some ad => exact run_append_own w base t ty e i z size bytes ht hi hz hsize hby hzs hsz v n xs hown ad m c news hl (hnews ad rfl) h1 h63 hbytes hbase
  | none =>
    obtain ⟨rfl, rfl⟩ := hnn rfl
    have hn : news = [] := List.eq_nil_of_length_eq_zero (by simpa using hl)
    subst hn
    rw [Nat.add_zero, List.append_nil]
    refine ⟨v, w, ?_, hown, ⟨rfl, rfl, rfl, Nat.le_refl _, fun _ _ _ => rfl⟩, by simp⟩
    obtain ⟨rfl, rfl⟩ | ⟨g, cap, cur, rfl, hbg, hg, hnc, hcm, hcs, htake⟩ := hown.2
    · simp [Builtin.append_, run_underlying ht, sizeOf, typeInfo, hi, Builtin.lenOf, Builtin.firstCells, loadCells, loadCellsFrom]
    · simp [Builtin.append_, run_underlying ht, sizeOf, typeInfo, hi, Builtin.lenOf, Builtin.firstCells, loadCells, loadCellsFrom, hnc]
      rfl
theorem wpList_append_opt {w : World} {ops : Array Oper} {rest : List Oper} {o : Oper} {a : Act} {Q : Exit → Act → World → Prop} (hgd : o.guard = none) (s x : Operand) (t : TypeId)
    (ho : o.op = .call { callee := .builtin .append, args := #[s, x], argTypes := #[t, t] })
    (base : Nat) (e : TypeId) (i : TypeInfo) (z : Value) (size bytes : Nat) (ht : P.underlying t = some (.slice e)) (hi : P.info? e = some i) (hz : i.zero = some z)
    (hsize : i.size = size) (hby : i.bytes = bytes) (hzs : z.cells.size = size) (hsz : 0 < size)
    (v : Value) (n : Nat) (xs : List Value) (hs : a.eval s = v) (hown : w.ownsRow base e size v n xs)
    (ad : Option Addr) (m c : Nat) (news : List Value) (hx : a.eval x = .slice ad m c) (hl : news.length = m * size) (hnn : ad = none → m = 0 ∧ c = 0) (hnews : ∀ ad', ad = some ad' → ∀ j u, news[j]? = some u → w.cell? (ad'.add j) = some u) (h1 : ∀ u ∈ news, u.oneCell' = true)
    (h63 : n + m ≤ maxLen) (hbytes : (n + m) * bytes ≤ 140737488355328) (hbase : base ≤ w.heap.size)
    (h : ∀ v' w', w'.ownsRow base e size v' (n + m) (xs ++ news) → w.grownBy w' v.ownBlock → (v' = .slice none 0 0 ↔ v = .slice none 0 0 ∧ m = 0) → wpList P ops Q rest (a.put o.dst v') w') : wpList P ops Q (o :: rest) a w :=
  wpList_plain hgd fun _ hK => by
    obtain ⟨v', w', hr, h2, h3, h4⟩ := run_append_opt (P := P) w base t o.type e i z size bytes ht hi hz hsize hby hzs hsz v n xs hown ad m c news hl hnn hnews h1 h63 hbytes hbase
    unfold Oper.wp execOp
    simp only [ho, resolve, invoke, builtin, Sem.run_bind, Sem.run_pure, Result.andThen_ok, List.map_toArray, List.map_cons, List.map_nil, hs, hx, hr]
    exact hK _ _ (h v' w' h2 h3 h4)
end
theorem own_blw {w w' : World} {b0 n : Nat} {T : TypeId} {v : Value} {cs : List Value} (h : w.ownsRow b0 T 1 v n cs) (hb : Below w.heap.size w w') : w'.ownsRow b0 T 1 v n cs := by
  obtain ⟨hl, ⟨rfl, h0⟩ | ⟨r, cap, cur, rfl, q1, hg, q2, q3, q4, q5⟩⟩ := h
  · exact ⟨hl, Or.inl ⟨rfl, h0⟩⟩
  · exact ⟨hl, Or.inr ⟨r, cap, cur, rfl, q1, by rw [hb.block r (Array.getElem?_eq_some_iff.1 hg).1]; exact hg, q2, q3, q4, q5⟩⟩
theorem own_sl {w : World} {base : Nat} {v : Value} {n : Nat} {qs : List ByteArray} (hn : qs.length = n) (h : w.ownsRow base 9 1 v n (qs.map Value.string)) : ∃ a' c', v = .slice a' n c' ∧ SL w a' qs := by
  obtain ⟨hl, ⟨rfl, h0⟩ | ⟨g, cap, cur, rfl, h1, hg, h2, h3, h4, h5⟩⟩ := h
  · refine ⟨none, 0, by rw [h0], fun i hi => ?_⟩
    omega
  · refine ⟨_, _, rfl, fun i hi => ⟨g, 0, rfl, ?_⟩⟩
    have e : (cur.toList.take (n * 1))[i]? = (qs.map Value.string)[i]? := by rw [h5]
    rw [List.getElem?_take_of_lt (by omega), List.getElem?_map, List.getElem?_eq_getElem hi, Array.getElem?_toList] at e
    rw [Nat.zero_add]
    unfold World.cell?
    simp [hg, e]
def ints (l : List Int) : List Value := l.map fun x => Value.int .i64 x
theorem own_il {w : World} {base : Nat} {v : Value} {n : Nat} {qs : List Int} (hn : qs.length = n) (h : w.ownsRow base 3 1 v n (ints qs)) : ∃ a' c', v = .slice a' n c' ∧ IL w a' qs ∧ n ≤ c' ∧ c' ≤ 9223372036854775807 := by
  obtain ⟨hl, ⟨rfl, h0⟩ | ⟨g, cap, cur, rfl, h1, hg, h2, h3, h4, h5⟩⟩ := h
  · refine ⟨none, 0, by rw [h0], fun i hi => ?_, by omega, by omega⟩
    omega
  · refine ⟨_, _, rfl, fun i hi => ⟨g, 0, rfl, ?_⟩, h2, by unfold maxLen at h3; omega⟩
    have e : (cur.toList.take (n * 1))[i]? = (ints qs)[i]? := by rw [h5]
    unfold ints at e
    rw [List.getElem?_take_of_lt (by omega), List.getElem?_map, List.getElem?_eq_getElem hi, Array.getElem?_toList] at e
    rw [Nat.zero_add]
    unfold World.cell?
    simp [hg, e]
theorem one_own3 {w : World} {b base : Nat} {T : TypeId} {v : Value} (h : IHolds w b T [v]) (hb : base ≤ b) : w.ownsRow base T 1 (.slice (some ⟨b, 0, none⟩) 1 1) 1 [v] :=
  ⟨rfl, Or.inr ⟨b, 1, #[v], rfl, hb, h, Nat.le_refl _, by unfold maxLen; omega, rfl, rfl⟩⟩
theorem il_news {w : World} {a : Option Addr} {l : List Int} (h : IL w a l) : ∀ ad, a = some ad → ∀ j u, (ints l)[j]? = some u → w.cell? (ad.add j) = some u := fun ad ha j u hu => by
  unfold ints at hu
  rw [List.getElem?_map, Option.map_eq_some_iff] at hu
  obtain ⟨y, hy, rfl⟩ := hu
  obtain ⟨hj, e⟩ := List.getElem?_eq_some_iff.1 hy
  obtain ⟨b, o, e2, hc⟩ := h j hj
  rw [ha] at e2
  cases e2
  rw [e] at hc
  unfold Addr.add
  by_cases h0 : j = 0
  · subst h0; simpa using hc
  · simpa [h0] using hc
theorem sl_news {w : World} {a : Option Addr} {l : List ByteArray} (h : SL w a l) : ∀ ad, a = some ad → ∀ j u, (l.map Value.string)[j]? = some u → w.cell? (ad.add j) = some u := fun ad ha j u hu => by
  rw [List.getElem?_map, Option.map_eq_some_iff] at hu
  obtain ⟨y, hy, rfl⟩ := hu
  obtain ⟨hj, e⟩ := List.getElem?_eq_some_iff.1 hy
  obtain ⟨b, o, e2, hc⟩ := h j hj
  rw [ha] at e2
  cases e2
  rw [e] at hc
  unfold Addr.add
  by_cases h0 : j = 0
  · subst h0; simpa using hc
  · simpa [h0] using hc
theorem news_of {w : World} {b : Nat} {T : TypeId} {L : List Value} (h : IHolds w b T L) : ∀ j u, L[j]? = some u → w.cell? ((⟨b, 0, none⟩ : Addr).add j) = some u := fun j u hu => by
  obtain ⟨hj, e⟩ := List.getElem?_eq_some_iff.1 hu
  have hc := h.cell j hj
  rw [e] at hc
  unfold Addr.add
  by_cases h0 : j = 0
  · subst h0; simpa using hc
  · simpa [h0] using hc
theorem Try.info3' : (Try.prog.info? 3).map (fun i => (i.zero, i.size, i.bytes)) = some (some (.int .i64 0), 1, 8) := by kernel_rfl
/-- What the law wants of Through's answers. -/
structure Wants (F : List Int → List ByteArray → Int → ByteArray) (K : List Int → List ByteArray → Int → Int) (A O : List Int) (V : List ByteArray) (s : ByteArray) : Prop where
  codes : ∀ x, K (0 :: A) (s :: V) x = 0 ∨ K (0 :: A) (s :: V) x = 1 ∨ K (0 :: A) (s :: V) x = 3 ∨ K (0 :: A) (s :: V) x = 2 ∨ K (0 :: A) (s :: V) x = 4 ∨ K (0 :: A) (s :: V) x = 10 ∨ K (0 :: A) (s :: V) x = 6
  few : K (0 :: A) (s :: V) 0 = 0 → F (0 :: A) (s :: V) 0 = s
  many : (∀ i (h : i < O.length), K (0 :: A) (s :: V) O[i] = 0) → ¬ O.length < A.length + 1 → K O (O.map (F (0 :: A) (s :: V))) 0 = 3 ∨ K O (O.map (F (0 :: A) (s :: V))) 0 = 10 ∨ (K O (O.map (F (0 :: A) (s :: V))) 0 = 0 ∧ F O (O.map (F (0 :: A) (s :: V))) 0 = s ∧ V.length = A.length ∧ ∀ i (h : i < A.length) (h' : i < V.length), K O (O.map (F (0 :: A) (s :: V))) A[i] = 0 ∧ F O (O.map (F (0 :: A) (s :: V))) A[i] = V[i])
set_option maxHeartbeats 8000000 in
theorem law_walk {w : World} {z : Int} {aa av ao : Option Addr} {ca cv co : Nat} {A O : List Int} {V : List ByteArray} {s : ByteArray} {F : List Int → List ByteArray → Int → ByteArray} {K : List Int → List ByteArray → Int → Int} (hA : A.length ≤ 1048576) (hV : V.length ≤ 1048576) (hO : O.length ≤ 1048576) (hna : aa = none → A.length = 0 ∧ ca = 0) (hnv : av = none → V.length = 0 ∧ cv = 0) (hoc : O.length ≤ co) (hoc9 : co ≤ 9223372036854775807) (ia : IL w aa A) (iv : SL w av V) (io : IL w ao O) (wt : Wants F K A O V s)
    (CT : ∀ (P : List Int) (L : List ByteArray) x a b c d W, IL W a P → SL W b L → P.length ≤ 2097152 → L.length ≤ 2097152 → P.length ≤ c → c ≤ 9223372036854775807 → Calls Try.prog 4 #[.int .i64 z, .slice a P.length c, .slice b L.length d, .int .i64 x] W fun e w' => e = .returned (.tuple #[.string (F P L x), .int .i64 (K P L x)]) ∧ Below W.heap.size W w') :
    Calls Try.prog 3 #[.int .i64 z, .slice aa A.length ca, .slice av V.length cv, .string s, .slice ao O.length co] w fun e w' => e = .returned (.bool true) ∧ Below w.heap.size w w' := by
  have HA : Hid (IL w aa A) := ia
  have HV : Hid (SL w av V) := iv
  have HO : Hid (IL w ao O) := io
  have HW : Hid (Wants F K A O V s) := wt
  have HT : Hid _ := CT
  have HNA : Hid _ := hna
  have HNV : Hid _ := hnv
  obtain ⟨i3, hi3, hz30, hz31, hz32⟩ := info_parts Try.info3'
  obtain ⟨i9, hi9, hz90, hz91, hz92⟩ := info_parts Try.info9'
  have I0 : Hid (IHolds (w.alloc (.cells #[.int .i64 0] 3)) w.heap.size 3 [.int .i64 0]) := IHolds.new w 3 [_]
  have B0 : Hid (Below w.heap.size w (w.alloc (.cells #[.int .i64 0] 3))) := nB w _
  have O0 : Hid ((w.alloc (.cells #[.int .i64 0] 3)).ownsRow w.heap.size 3 1 (.slice (some ⟨w.heap.size, 0, none⟩) 1 1) 1 [.int .i64 0]) := one_own3 I0.out (Nat.le_refl _)
  clear ia iv io wt CT hna hnv
  go_enter Try.func3, Try.ntmps3
  go_wp2_with (first
    | (at_builtin; have zz := O0.out; clear zz; refine wpList_append_opt rfl (.tmp 26) (.tmp 27) 22 rfl w.heap.size 3 i3 (.int .i64 0) 1 8 Try.underlying22 hi3 hz30 hz31 hz32 rfl (by decide) _ 1 [.int .i64 0] rfl O0.out aa A.length ca (ints A) rfl (by simp [ints]) HNA.out (il_news (HA.out.of_below B0.out)) (fun u hu => by (unfold ints at hu; obtain ⟨y, _, rfl⟩ := List.mem_map.1 hu; rfl)) (by unfold maxLen; omega) (by omega) B0.out.size ?_; intro v1 w1 hown hgrow hn; have B1 : Hid (Below w.heap.size w w1) := B0.out.grown hgrow B0.out.size (fun k hk => (O0.out.lt k hk).1); obtain ⟨a1, c1, rfl, hil, hc1, hc9⟩ := own_il (qs := 0 :: A) (by simp; omega) hown; have P1 : Hid (IL w1 a1 (0 :: A)) := hil; have G1 : Hid (1 + A.length ≤ c1 ∧ c1 ≤ 9223372036854775807) := ⟨hc1, hc9⟩; have I1 : Hid (IHolds (w1.alloc (.cells #[.string s] 9)) w1.heap.size 9 [.string s]) := IHolds.new w1 9 [_]; have B1' : Hid (Below w1.heap.size w1 (w1.alloc (.cells #[.string s] 9))) := nB w1 _; have O1 : Hid ((w1.alloc (.cells #[.string s] 9)).ownsRow w1.heap.size 9 1 (.slice (some ⟨w1.heap.size, 0, none⟩) 1 1) 1 [.string s]) := one_own3 I1.out (Nat.le_refl _); clear hown hgrow hn hil hc1 hc9 O0 B0 I0)
    | (at_builtin; have zz := O1.out; clear zz; refine wpList_append_opt rfl (.tmp 30) (.tmp 31) 23 rfl w1.heap.size 9 i9 (.string ⟨#[]⟩) 1 16 Try.under23 hi9 hz90 hz91 hz92 rfl (by decide) _ 1 [.string s] rfl O1.out av V.length cv (V.map Value.string) rfl (by simp) HNV.out (sl_news ((HV.out.of_below B1.out).of_below B1'.out)) (fun u hu => by (obtain ⟨y, _, rfl⟩ := List.mem_map.1 hu; rfl)) (by unfold maxLen; omega) (by omega) B1'.out.size ?_; intro v2 w2 hown hgrow hn; have B2' : Hid (Below w1.heap.size w1 w2) := B1'.out.grown hgrow B1'.out.size (fun k hk => (O1.out.lt k hk).1); obtain ⟨b2, c2, rfl, hsl⟩ := own_sl (qs := s :: V) (by simp; omega) hown; have L2 : Hid (SL w2 b2 (s :: V)) := hsl; have P2 : Hid (IL w2 a1 (0 :: A)) := P1.out.of_below B2'.out; have B2 : Hid (Below w.heap.size w w2) := B1.out.trans (B2'.out.mono B1.out.size); clear hown hgrow hn hsl O1 B1' I1 P1 B2'))
  have TP : Hid (∀ x W, Below w2.heap.size w2 W → Calls Try.prog 4 #[.int .i64 z, .slice a1 (1 + A.length) c1, .slice b2 (1 + V.length) c2, .int .i64 x] W fun e w' => e = .returned (.tuple #[.string (F (0 :: A) (s :: V) x), .int .i64 (K (0 :: A) (s :: V) x)]) ∧ Below W.heap.size W w') := fun x W hW => by
    have q := HT.out (0 :: A) (s :: V) x a1 b2 c1 c2 W (P2.out.of_below hW) (L2.out.of_below hW) (by simp; omega) (by simp; omega) (by have := G1.out; simp; omega) G1.out.2
    rw [List.length_cons, List.length_cons, Nat.add_comm A.length, Nat.add_comm V.length] at q
    exact q
  have HG : Hid ((O.map (F (0 :: A) (s :: V))).length = O.length) := by show _ = _; simp
  have C0 : Hid _ := HW.out.codes
  have FW : Hid _ := HW.out.few
  have MN : Hid _ := HW.out.many
  have HGA : Hid (∀ i (h : i < O.length) (h' : i < (O.map (F (0 :: A) (s :: V))).length), (O.map (F (0 :: A) (s :: V)))[i] = F (0 :: A) (s :: V) O[i]) := fun i h h' => by simp
  clear HW P2 L2 G1 HNA HNV
  generalize F (0 :: A) (s :: V) = FP at *
  generalize K (0 :: A) (s :: V) = KP at *
  go_loopg [13, 15, 16, 17, 35] O.length (fun gk v13 v15 v16 v17 v35 wr => ∃ i : Nat, i + gk = O.length ∧ v35 = .int .i64 (i : Int) ∧ Below w2.heap.size w2 wr ∧ (∀ j (h : j < O.length), j < i → KP O[j] = 0) ∧ wr.ownsRow w2.heap.size 9 1 v13 i (((O.map FP).take i).map Value.string))
  case atStart => exact ⟨0, by omega, rfl, Below.refl _ _, fun j h hj => by omega, ⟨by simp, Or.inl ⟨rfl, rfl⟩⟩⟩
  case round =>
    obtain ⟨i, hig, rfl, hB, hK, hO'⟩ := hrel
    have BB : Hid (Below w2.heap.size w2 wr) := hB
    have HKs : Hid (∀ j (h : j < O.length), j < i → KP O[j] = 0) := hK
    have HOw : Hid (wr.ownsRow w2.heap.size 9 1 u13 i (((O.map FP).take i).map Value.string)) := hO'
    clear hB hK hO'
    have BW : Hid (Below w.heap.size w wr) := B2.out.trans (BB.out.mono B2.out.size)
    by_cases hi : i < O.length
    · have hi3 : i < (O.map FP).length := by simp; exact hi
      obtain ⟨b1, o1, rfl, hc1⟩ := HO.out.of_below BW.out i hi
      have il : (i : Int) < (O.length : Int) := by omega
      have HTk : Hid _ := List.take_succ_eq_append_getElem hi3
      rw [HGA.out i hi hi3] at HTk
      have hcall := TP.out O[i] wr BB.out
      have HC := C0.out O[i]
      have HKn : Hid (KP O[i] = 0 → ∀ j (h : j < O.length), j < i + 1 → KP O[j] = 0) := fun h0 j h hj => by
        by_cases e : j = i
        · subst e; exact h0
        · exact HKs.out j h (by omega)
      generalize O[i] = x at *
      by_cases hk : KP x = 0
      · rw [hk] at hcall
        have HKz : Hid _ := HKn.out hk
        clear HC hk HKn HT TP C0 FW MN
        generalize FP x = r at *
        go_wp2_with (first
          | (go_at_call 4; refine hcall.mono ?_; rintro e w3 ⟨rfl, hB3⟩; have B3 : Hid (Below w2.heap.size w2 (w3.alloc (.cells #[.string r] 9))) := (BB.out.trans (hB3.mono BB.out.size)).alloc (BB.out.trans (hB3.mono BB.out.size)).size _; have O3 : Hid ((w3.alloc (.cells #[.string r] 9)).ownsRow w2.heap.size 9 1 u13 i (((O.map FP).take i).map Value.string)) := own_blw (own_blw HOw.out hB3) (nB w3 _); have J3 : Hid (IHolds (w3.alloc (.cells #[.string r] 9)) w3.heap.size 9 [.string r]) := IHolds.new w3 9 [.string r]; clear hB3 HOw hcall)
          | (at_builtin; refine wpList_append_own _ rfl (.tmp 71) (.tmp 73) 23 rfl w2.heap.size 9 i9 (.string ⟨#[]⟩) 1 16 Try.under23 hi9 hz90 hz91 hz92 rfl (by decide) u13 i (((O.map FP).take i).map Value.string) rfl O3.out ⟨w3.heap.size, 0, none⟩ 1 1 [.string r] rfl rfl (news_of J3.out) (fun u hu => by simp at hu; subst hu; rfl) (by unfold maxLen; omega) (by omega) B3.out.size ?_; intro v2 w8 hown hgrow hn; have B8 : Hid (Below w2.heap.size w2 w8) := B3.out.grown hgrow B3.out.size (fun k hk => (O3.out.lt k hk).1); have O8 : Hid (w8.ownsRow w2.heap.size 9 1 v2 (i + 1) (((O.map FP).take i).map Value.string ++ [Value.string r])) := hown; clear hown hgrow hn))
        go_roundg (gk - 1)
        case measure => omega
        case rel => exact ⟨i + 1, by omega, by go_num, B8.out, HKz.out, by rw [HTk.out, List.map_append]; exact O8.out⟩
      · clear HT TP C0 FW MN HKn HTk HOw HKs
        generalize FP x = r at *
        rcases HC with h | h | h | h | h | h | h
        · exact absurd h hk
        all_goals
          rw [h] at hcall
          clear hk h
          go_wp2_with (go_at_call 4; refine hcall.mono ?_; rintro e w3 ⟨rfl, hB3⟩; have B3 : Hid (Below w.heap.size w w3) := BW.out.trans (hB3.mono BW.out.size); clear hB3 hcall)
          go_ret
          exact ⟨rfl, B3.out⟩
    · have il : ¬ (i : Int) < (O.length : Int) := by omega
      have e : i = O.length := by omega
      have HKa : ∀ j (h : j < O.length), KP O[j] = 0 := fun j h => HKs.out j h (by omega)
      obtain ⟨a9, c9, hv9, hs9⟩ := own_sl (qs := O.map FP) (n := O.length) HG.out (by have h := HOw.out; rw [e, ← HG.out, List.take_length, HG.out] at h; exact h)
      subst hv9
      have S9 : Hid (SL wr a9 (O.map FP)) := hs9
      clear e hs9 HOw HKs C0
      by_cases hlt : O.length < A.length + 1
      · have hlt' : (O.length : Int) < ((1 + A.length : Nat) : Int) := by omega
        have hcall := TP.out 0 wr BB.out
        by_cases hk : KP 0 = 0
        · rw [hk, FW.out hk] at hcall
          clear hk HT TP FW MN HKa
          go_wp2_with (go_at_call 4; refine hcall.mono ?_; rintro e w3 ⟨rfl, hB3⟩; have B3 : Hid (Below w.heap.size w w3) := BW.out.trans (hB3.mono BW.out.size); clear hB3 hcall)
          go_ret
          exact ⟨rfl, B3.out⟩
        · have hk' : (KP 0 != 0) = true := bne_iff_ne.2 hk
          clear hk HT TP FW MN HKa
          generalize KP 0 = k0 at *
          generalize FP 0 = r at *
          go_wp2_with (go_at_call 4; refine hcall.mono ?_; rintro e w3 ⟨rfl, hB3⟩; have B3 : Hid (Below w.heap.size w w3) := BW.out.trans (hB3.mono BW.out.size); clear hB3 hcall)
          go_ret
          exact ⟨rfl, B3.out⟩
      · have hlt' : ¬ (O.length : Int) < ((1 + A.length : Nat) : Int) := by omega
        have hm := MN.out HKa hlt
        have TQ : Hid (∀ x W, Below wr.heap.size wr W → Calls Try.prog 4 #[.int .i64 z, .slice ao O.length co, .slice a9 O.length c9, .int .i64 x] W fun e w' => e = .returned (.tuple #[.string (F O (O.map FP) x), .int .i64 (K O (O.map FP) x)]) ∧ Below W.heap.size W w') := fun x W hW => by
          have q := HT.out O (O.map FP) x ao a9 co c9 W ((HO.out.of_below BW.out).of_below hW) (S9.out.of_below hW) (by omega) (by have := HG.out; omega) hoc hoc9
          rw [HG.out] at q
          exact q
        have hcall := TQ.out 0 wr (Below.refl _ _)
        clear HT TP FW MN HKa hlt
        generalize F O (O.map FP) = FO at *
        generalize K O (O.map FP) = KO at *
        rcases hm with h | h | ⟨h, hs0, hvl, hall⟩
        · rw [h] at hcall
          clear h
          generalize FO 0 = r at *
          go_wp2_with (go_at_call 4; refine hcall.mono ?_; rintro e w3 ⟨rfl, hB3⟩; have B3 : Hid (Below w.heap.size w w3) := BW.out.trans (hB3.mono BW.out.size); clear hB3 hcall)
          go_ret
          exact ⟨rfl, B3.out⟩
        · rw [h] at hcall
          clear h
          generalize FO 0 = r at *
          go_wp2_with (go_at_call 4; refine hcall.mono ?_; rintro e w3 ⟨rfl, hB3⟩; have B3 : Hid (Below w.heap.size w w3) := BW.out.trans (hB3.mono BW.out.size); clear hB3 hcall)
          go_ret
          exact ⟨rfl, B3.out⟩
        · rw [h, hs0] at hcall
          have HVL : Hid (V.length = A.length) := hvl
          have HAL : Hid _ := hall
          clear h hs0 hvl hall
          go_wp2_with (go_at_call 4; refine hcall.mono ?_; rintro e w3 ⟨rfl, hB3⟩; have B3 : Hid (Below wr.heap.size wr w3) := hB3; clear hB3 hcall)
          go_loopg [22, 23, 24, 25, 115] A.length (fun gk v22 v23 v24 v25 v115 wq => ∃ i : Nat, i + gk = A.length ∧ v115 = .int .i64 (i : Int) ∧ Below wr.heap.size wr wq)
          case atStart => exact ⟨0, by omega, rfl, B3.out⟩
          case round =>
            obtain ⟨j, hjg, rfl, hBq⟩ := hrel
            have BQ : Hid _ := hBq
            clear hBq
            have BX : Hid _ := BW.out.trans (BQ.out.mono BW.out.size)
            by_cases hj : j < A.length
            · have hj2 : j < V.length := by have := HVL.out; omega
              have jl : (j : Int) < (A.length : Int) := by omega
              have jv : (j : Int) < (V.length : Int) := by omega
              obtain ⟨x1, x2⟩ := HAL.out j hj hj2
              obtain ⟨b4, o4, rfl, hc4⟩ := HA.out.of_below BX.out j hj
              obtain ⟨b5, o5, rfl, hc5⟩ := HV.out.of_below BX.out j hj2
              have hq := TQ.out A[j] _ BQ.out
              rw [x1, x2] at hq
              clear x1 x2
              generalize A[j] = y at *
              generalize V[j] = t at *
              go_wp2_with (go_at_call 4; refine hq.mono ?_; rintro e w7 ⟨rfl, hB7⟩; have B7 : Hid _ := BQ.out.trans (hB7.mono BQ.out.size); have k5 := cell_keep hc5 hB7; clear hB7 hq)
              go_roundg (gk - 1)
              case measure => omega
              case rel => exact ⟨j + 1, by omega, by go_num, B7.out⟩
            · have jl : ¬ (j : Int) < (A.length : Int) := by omega
              go_wp2_with fail
              go_ret
              exact ⟨rfl, BX.out⟩
end Go.Proofs.Ythdffjboaicopaa
