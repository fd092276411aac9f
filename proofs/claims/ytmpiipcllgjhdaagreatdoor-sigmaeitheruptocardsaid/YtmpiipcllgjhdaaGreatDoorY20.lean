/- Proofs, made and verified. Verify and Prove, whole. Base; kinds that are none. Claims that are made: they hold. Claims that are made, of a kind. -/
import Derived.Test.YtmpiipcllgjhdaaGreatDoorY19
import Derived.Laws.AppendOwn
set_option linter.unusedSimpArgs false
set_option linter.unusedVariables false
set_option maxRecDepth 100000
namespace Go.Proofs.YtmpiipcllgjhdaaGreatDoor
open Go.RowKit Go.Deep Go.PlainAid

theorem E_left {M M2 x y : Nat} (e : M2 = 2 * M + 1) : sgn M M2 (E M M2 x * y % M2) = E M M2 (x * y) := by
  unfold E
  rw [sgn_mul_left e (Nat.mod_lt _ (by omega)), Nat.mod_mul_mod]
theorem E_mulR {M M2 x x' y : Nat} (e : M2 = 2 * M + 1) (h : E M M2 x = E M M2 x') : E M M2 (x * y) = E M M2 (x' * y) := by
  rw [← E_left e, ← E_left e, h]
theorem E_mulL {M M2 x x' y : Nat} (e : M2 = 2 * M + 1) (h : E M M2 x = E M M2 x') : E M M2 (y * x) = E M M2 (y * x') := by
  rw [Nat.mul_comm y x, Nat.mul_comm y x']
  exact E_mulR e h
theorem E_of_E {M M2 x n : Nat} (hq : IsP M) (e : M2 = 2 * M + 1) : E M M2 (E M M2 x ^ n) = E M M2 (x ^ n) := E_powE hq e
theorem numS_EX {S M M2 x : Nat} (h : PK S M M2) : numS (EX S M M2 x) = E M M2 x := numS_TX (Nat.lt_of_le_of_lt (sgn_le h.e2 (h.ml x)) h.hs)
theorem answer_mod {M n c x : Nat} (hM : 0 < M) (hc : c < M) : ((n + c * x % M) % M + x * ((0 + M - c) % M)) % M = n % M := by
  have e1 : ((n + c * x % M) % M + x * ((0 + M - c) % M)) % M = (n + c * x + x * (M - c)) % M := by
    rw [Nat.zero_add]
    have a1 : (n + c * x % M) % M = (n + c * x) % M := by rw [Nat.add_mod n (c * x % M), Nat.mod_mod, ← Nat.add_mod]
    have a2 : x * ((M - c) % M) % M = x * (M - c) % M := by rw [Nat.mul_mod x ((M - c) % M), Nat.mod_mod, ← Nat.mul_mod]
    rw [a1, Nat.add_mod ((n + c * x) % M), Nat.mod_mod, a2, ← Nat.add_mod]
  have e2 : n + c * x + x * (M - c) = n + x * M := by
    have h1 : c * x + x * (M - c) = x * M := by rw [Nat.mul_comm c x, ← Nat.mul_add, Nat.add_sub_cancel' (Nat.le_of_lt hc)]
    omega
  rw [e1, e2, Nat.add_mul_mod_self_right]
/-- The answers of who knows the secrets. -/
def ansL (S M c : Nat) (ns ms : List ByteArray) : List ByteArray := List.zipWith (fun n x => TX S ((numS n + c * numS x % M) % M)) ns ms
theorem ansL_len {S M c : Nat} {ns ms : List ByteArray} {k : Nat} (h1 : ns.length = k) (h2 : ms.length = k) : (ansL S M c ns ms).length = k := by simp [ansL]; omega
theorem ansL_sc {S M M2 c : Nat} (h : PK S M M2) (ns ms : List ByteArray) : (ansL S M c ns ms).all (isSc S M) = true := by
  rw [List.all_eq_true]
  intro s hs
  obtain ⟨i, hi, rfl⟩ := List.mem_iff_getElem.1 hs
  simp only [ansL, List.getElem_zipWith]
  exact isSc_TX (Nat.mod_lt _ (by have := h.m1; omega)) (Nat.le_of_lt h.hs)
/-- COMPLETENESS, plain: what comes back of right answers is what was said first. -/
theorem complete_plain {S M M2 c : Nat} (h : PK S M M2) {l : List Cl} (ok : OkC (isEl S M) l) {ms ns : List ByteArray} (hm : ms.length = l.length) (hn : ns.length = l.length) (hc : c < M) (hold : l.map Prod.snd = fsG S M M2 l ms) :
    bkG S M M2 ((0 + M - c) % M) l (ansL S M c ns ms) = fsG S M M2 l ns := by
  have m1 := h.m1
  have la : (ansL S M c ns ms).length = l.length := ansL_len hn hm
  refine List.ext_getElem (by simp [bkG, fsG]; omega) (fun i h1 h2 => ?_)
  have hi : i < l.length := by simp [bkG] at h1; omega
  have f := ok.few i hi
  have el := ok.el i hi
  have ho : (l[i]).2 = (l[i]).1.map fun b => EX S M M2 (numS b ^ numS (ms[i]'(by omega))) := by
    have q : (l.map Prod.snd)[i]? = (fsG S M M2 l ms)[i]? := by rw [hold]
    rw [List.getElem?_eq_getElem (by simpa using hi), List.getElem?_eq_getElem (by simp [fsG]; omega)] at q
    simpa [fsG] using q
  have ha : numS ((ansL S M c ns ms)[i]'(by omega)) = (numS (ns[i]'(by omega)) + c * numS (ms[i]'(by omega)) % M) % M := by
    simp only [ansL, List.getElem_zipWith]
    exact numS_TX (Nat.lt_trans (Nat.mod_lt _ (by omega)) h.hs)
  simp only [bkG, fsG, List.getElem_zipWith]
  rw [ha]
  generalize (ns[i]'(by omega)) = n at *
  generalize (ms[i]'(by omega)) = x at *
  refine List.ext_getElem (by simp; omega) (fun j j1 j2 => ?_)
  have hj : j < (l[i]).1.length := by simpa using j2
  have hb := List.all_eq_true.1 el.1 _ (List.getElem_mem hj)
  have hy : (l[i]).2[j]'(by omega) = EX S M M2 (numS ((l[i]).1[j]) ^ numS x) := by
    rw [List.getElem_of_eq ho]; simp
  rw [List.getElem_zipWith, List.getElem_map, hy, numS_EX h]
  generalize (l[i]).1[j] = b at *
  unfold EX
  congr 1
  have e1 : E M M2 (numS b ^ ((numS n + c * numS x % M) % M) * E M M2 (numS b ^ numS x) ^ ((0 + M - c) % M)) = E M M2 (numS b ^ ((numS n + c * numS x % M) % M) * (numS b ^ numS x) ^ ((0 + M - c) % M)) := E_mulL h.e2 (E_of_E h.hq h.e2)
  rw [e1, ← Nat.pow_mul, ← Nat.pow_add]
  exact E_sameA h.hp h.hq h.e2 (el_nd h hb) (answer_mod (by omega) hc)

section
variable {z : Int} {G : Array Value} {S Wd M low one sq Ri Wd2 M2 low2 one2 sq2 Ri2 : Nat}
theorem BCKI (k : KD z G S Wd M low one sq Ri Wd2 M2 low2 one2 sq2 Ri2) (h : PK S M M2) {ch : Nat} {l : List Cl} (ok : OkC (isEl S M) l) (hch : ch < M) {w : World} {a b : Option Addr} {c d : Nat} {m : List ByteArray} (hs : CM w a l) (hm : SL w b m) (hml : m.length = l.length) (hsc : m.all (isSc S M) = true) (W : World) (hW : Below w.heap.size w W) :
    Calls Tryz.prog 51 #[.agg #[.int .i64 z, .slice a l.length c], .string (TX S ch), .slice b l.length d] W fun e w' => (∃ a' c', e = .returned (.slice a' l.length c') ∧ SLL w' a' (bkG S M M2 ((0 + M - ch) % M) l m)) ∧ Below W.heap.size W w' := by
  have h64 := ok.most
  have m1 := h.m1
  have l9 : (0 + M - ch) % M < M := Nat.mod_lt _ (by omega)
  refine back45_any (fun V => zero85 (fun X => zero_call k X)) (fun V => minus68 (fun X => SUB k (by omega) hch X)) (fun V pb hV hI hP => ?_)
  generalize (0 + M - ch) % M = less at *
  have q := both86_87 (w := V) (c := c) (d := d) (g := W.heap.size) (p := pb) (q := bkG S M M2 less l m) h64 hml (by simp [bkG]; omega) ((hs.of_below hW).of_below hV) ((hm.of_below hW).of_below hV) (fun i h1 h2 h3 a1 c1 a2 c2 X hX s1 s2 => ?_)
  · rw [hml] at q
    exact q
  · have hsi : isSc S M m[i] = true := List.all_eq_true.1 hsc _ (List.getElem_mem h2)
    have e2 : (bkG S M M2 less l m)[i] = List.zipWith (fun b y => EX S M M2 (numS b ^ numS m[i] * numS y ^ less)) (l[i]).1 (l[i]).2 := by simp [bkG]
    have f := ok.few i h1
    have el := ok.el i h1
    rw [e2]
    have hx := isSc_TX' hsi
    have x9 := isSc_lt hsi
    generalize m[i] = s at *
    generalize l[i] = t at *
    have hzl : (List.zipWith (fun b y => EX S M M2 (numS b ^ numS s * numS y ^ less)) t.1 t.2).length = t.1.length := by simp; omega
    rw [hzl]
    refine clos87 (w := X) (z := z) (g := W.heap.size) (p := pb) (a1 := a1) (a2 := a2) (c1 := c1) (c2 := c2) (bs := t.1) (ms := t.2) (q := List.zipWith (fun b y => EX S M M2 (numS b ^ numS s * numS y ^ less)) t.1 t.2) (t := s) (u := TX S less) f.1 f.2.2 (by simp; omega) s1 s2 (cell_keep (hI.cell 0 (by simp)) hX) (cell_keep (hP.cell 0 (by simp)) hX) (fun j j1 j2 j3 Y => ?_)
    have eb : isEl S M t.1[j] = true := List.all_eq_true.1 el.1 _ (List.getElem_mem j1)
    have ei : isEl S M t.2[j] = true := List.all_eq_true.1 el.2 _ (List.getElem_mem j2)
    have pp := fun V b1 b2 => PRO k h (x := numS t.1[j]) (y := numS t.2[j]) (a := numS s) (b := less) (el_nd h eb) (el_nd h ei) x9 l9 V b1 b2
    rw [← hx, el_EX h eb, el_EX h ei] at pp
    rw [List.getElem_zipWith]
    exact powers89 pp

theorem EX_size (h : PK S M M2) (x : Nat) : (EX S M M2 x).size = S := size_TX S _
theorem TX_size (S n : Nat) : (TX S n).size = S := size_TX S n
theorem okZ (k : KD z G S Wd M low one sq Ri Wd2 M2 low2 one2 sq2 Ri2) {l : List Cl} (ok : OkC (isEl S M) l) : ∀ i (h : i < l.length), Zl (l[i]).1 ∧ Zl (l[i]).2 := fun i hi => by
  have f := ok.few i hi
  have e := ok.el i hi
  exact ⟨Zl.of k.hS (by omega) (fun x hx => isEl_size (List.all_eq_true.1 e.1 x hx)), Zl.of k.hS (by omega) (fun x hx => isEl_size (List.all_eq_true.1 e.2 x hx))⟩
theorem fsZ (k : KD z G S Wd M low one sq Ri Wd2 M2 low2 one2 sq2 Ri2) (h : PK S M M2) {l : List Cl} (ok : OkC (isEl S M) l) (m : List ByteArray) : ∀ i (hh : i < (fsG S M M2 l m).length), Zl (fsG S M M2 l m)[i] := fun i hi => by
  have hil : i < l.length := by simp [fsG] at hi; omega
  have f := ok.few i hil
  refine Zl.of k.hS (by simp [fsG]; omega) (fun x hx => ?_)
  simp only [fsG, List.getElem_zipWith, List.mem_map] at hx
  obtain ⟨b, _, rfl⟩ := hx
  exact EX_size h _
theorem bkZ (k : KD z G S Wd M low one sq Ri Wd2 M2 low2 one2 sq2 Ri2) (h : PK S M M2) {less : Nat} {l : List Cl} (ok : OkC (isEl S M) l) (m : List ByteArray) : ∀ i (hh : i < (bkG S M M2 less l m).length), Zl (bkG S M M2 less l m)[i] := fun i hi => by
  have hil : i < l.length := by simp [bkG] at hi; omega
  have f := ok.few i hil
  refine Zl.of k.hS (by simp [bkG]; omega) (fun x hx => ?_)
  obtain ⟨j, hj, rfl⟩ := List.getElem_of_mem hx
  simp only [bkG, List.getElem_zipWith]
  exact EX_size h _
theorem nonL_sc (h : PK S M M2) (n : Nat) (s : ByteArray) : (nonL S M n s).all (isSc S M) = true := by
  rw [List.all_eq_true]
  intro x hx
  obtain ⟨i, hi, rfl⟩ := List.getElem_of_mem hx
  rw [nonL_at]
  exact isSc_TX (Nat.mod_lt _ (by have := h.m1; omega)) (Nat.le_of_lt h.hs)
theorem askN_lt (h : PK S M M2) (lab s : ByteArray) : askN lab s M < M := Nat.mod_lt _ (by have := h.m1; omega)
/-- The state of a talk of claims; its nonces; its challenge. -/
def sT (z : Int) (l : List Cl) (label : ByteArray) : ByteArray := telS l (st0 z ⟨#[99, 108, 97, 105, 109, 115]⟩ label)
theorem sT_size (z : Int) (l : List Cl) (label : ByteArray) : (sT z l label).size = 32 := telS_size (st0_size _ _ _)
def nsT (z : Int) (S M : Nat) (l : List Cl) (label seed : ByteArray) : List ByteArray := nonL S M l.length (sy (sT z l label) sedB seed)
def chT (z : Int) (M : Nat) (l : List Cl) (label : ByteArray) (q : List (List ByteArray)) : Nat := askN chaB (firS q (sT z l label)) M
theorem ANS (k : KD z G S Wd M low one sq Ri Wd2 M2 low2 one2 sq2 Ri2) (h : PK S M M2) {ch : Nat} (hch : ch < M) {w : World} {a a1 a2 : Option Addr} {n c c1 c2 : Nat} {ns ms : List ByteArray} (hn : ns.length ≤ 64) (hml : ms.length = ns.length) (s1 : ns.all (isSc S M) = true) (s2 : ms.all (isSc S M) = true) (hs : SL w a1 ns) (hm : SL w a2 ms) :
    Calls Tryz.prog 49 #[.agg #[.int .i64 z, .slice a n c], .slice a1 ns.length c1, .string (TX S ch), .slice a2 ms.length c2] w fun e w' => (∃ a' c', e = .returned (.slice a' ns.length c') ∧ SY w' a' c' (ansL S M ch ns ms)) ∧ Below w.heap.size w w' := by
  refine answers49 hn hml (ansL_len rfl hml) hs hm (fun i h1 h2 h3 W g p hg hp => ?_)
  have q1 : isSc S M ns[i] = true := List.all_eq_true.1 s1 _ (List.getElem_mem h1)
  have q2 : isSc S M ms[i] = true := List.all_eq_true.1 s2 _ (List.getElem_mem h2)
  have e3 : (ansL S M ch ns ms)[i] = TX S ((numS ns[i] + ch * numS ms[i] % M) % M) := by simp [ansL]
  rw [e3]
  have m1 := h.m1
  have hk : isSc S M (TX S (ch * numS ms[i] % M)) = true := k.sc (Nat.mod_lt _ (by omega))
  refine clos92 (m := TX S (ch * numS ms[i] % M)) hg hp (fun V => times94 (y := 0) (fun X => ?_)) (fun V => plus93 (y := 0) (fun X => ?_))
  · have := mul_yes k X (a := TX S ch) (b := ms[i]) (k.sc hch) q2
    rw [k.nu hch] at this
    exact this
  · have := add_yes k X (a := ns[i]) (b := TX S (ch * numS ms[i] % M)) q1 hk
    rw [k.nu (Nat.mod_lt _ (by omega))] at this
    exact this
theorem PRI (k : KD z G S Wd M low one sq Ri Wd2 M2 low2 one2 sq2 Ri2) (h : PK S M M2) {l : List Cl} (ok : OkC (isEl S M) l) {w : World} {a a2 : Option Addr} {c c2 : Nat} {label seed : ByteArray} {ms : List ByteArray} (hT : TT w) (hlb : label.size < 1125899906842624) (hsd : seed.size < 1125899906842624) (hC : CK w a l) (hms : SL w a2 ms) (hml : ms.length = l.length) (hsc : ms.all (isSc S M) = true) (W : World) (hW : Below w.heap.size w W) :
    Calls Tryz.prog 20 #[.agg #[.int .i64 z, .slice a l.length c], .string label, .slice a2 ms.length c2, .string seed] W fun e w' => (∃ x y, e = .returned (.agg #[.string (TX S (chT z M l label (fsG S M M2 l (nsT z S M l label seed)))), .slice x l.length y]) ∧ SY w' x y (ansL S M (chT z M l label (fsG S M M2 l (nsT z S M l label seed))) (nsT z S M l label seed) ms)) ∧ Below W.heap.size W w' := by
  have hnl : (nsT z S M l label seed).length = l.length := nonL_len _ _ _ _
  refine prove20 (hT.below hW) hlb hsd ok.most (hC.of_below hW) (okZ k ok) (hms.of_below hW) hml (by simp [fsG]; omega) (fsZ k h ok _) (ansL_len hnl hml) rfl (fun n w0 V tb s lab hA h3 hl => CHA k hA h3 hl) (fun V a' c' hV hS => ?_) (fun V a' c' hV hS => ?_)
  · exact FIRG k h ok (((hC.cm.of_below hW).of_below hV)) hS hnl (nonL_sc h _ _) V (Below.refl _ _)
  · have q := ANS k h (askN_lt h chaB (firS (fsG S M M2 l (nsT z S M l label seed)) (sT z l label))) (w := V) (a := a) (n := l.length) (c := c) (c1 := c') (c2 := c2) (ns := nsT z S M l label seed) (ms := ms) (by have := ok.most; omega) (by omega) (nonL_sc h _ _) hsc hS ((hms.of_below hW).of_below hV)
    rw [hnl] at q
    exact q
end
end Go.Proofs.YtmpiipcllgjhdaaGreatDoor
namespace Go.Proofs.YtmpiipcllgjhdaaGreatDoor
open Go.RowKit Go.Deep Go.PlainAid

set_option maxHeartbeats 2000000 in
theorem verify22 {w : World} {z : Int} {a x : Option Addr} {l : List Cl} {c y : Nat} {label u : ByteArray} {q : List (List ByteArray)} (hT : TT w) (hlb : label.size < 1125899906842624) (hl : l.length ≤ 64) (hC : CK w a l) (hz : ∀ i (h : i < l.length), Zl (l[i]).1 ∧ Zl (l[i]).2)
    (hql : q.length = l.length) (hqz : ∀ i (h : i < q.length), Zl q[i])
    (C51 : ∀ W, Below w.heap.size w W → Calls Tryz.prog 51 #[.agg #[.int .i64 z, .slice a l.length c], .string u, .slice x l.length y] W fun e w' => (∃ a' c', e = .returned (.slice a' l.length c') ∧ SLL w' a' q) ∧ Below W.heap.size W w')
    (C48 : ∀ n w0 W tb, TW n w0 W tb (firS q (sT z l label)) → 3 < n → Calls Tryz.prog 48 #[.agg #[.int .i64 z], .pointer (some ⟨tb, 0, none⟩), .string chaB] W fun e w' => e = .returned (.string u) ∧ TW n w0 w' tb (ak chaB (firS q (sT z l label))) ∧ F.But tb W w') :
    Calls Tryz.prog 22 #[.agg #[.int .i64 z, .slice a l.length c], .string label, .agg #[.string u, .slice x l.length y]] w fun e w' => e = .returned (.bool true) ∧ Below w.heap.size w w' := by
  obtain ⟨U, hU⟩ : ∃ U, U = (w.alloc (.cells #[.int .i64 z, .slice a l.length c] 53)).alloc (.cells #[.string u, .slice x l.length y] 28) := ⟨_, rfl⟩
  have BU : Hid (Below w.heap.size w U) := by rw [hU]; exact ((Below.refl _ _).alloc (Nat.le_refl _) _).alloc (by simp) _
  have I1 : Hid (IHolds U w.heap.size 53 [.int .i64 z, .slice a l.length c]) := by rw [hU]; exact (IHolds.new w 53 [_, _]).alloc _
  have I2 : Hid (IHolds U (w.heap.size + 1) 28 [.string u, .slice x l.length y]) := by rw [hU]; exact IHolds.new' _ 28 [_, _] (by simp)
  have U3 : 3 < U.heap.size := (hT.below BU.out).T.size
  have H43 : Hid (Calls Tryz.prog 43 #[.agg #[.int .i64 z, .slice a l.length c], .string label] U fun e w' => ∃ b, e = .returned (.pointer (some ⟨b, 0, none⟩)) ∧ TW U.heap.size U w' b (sT z l label)) := talk43 (hT.below BU.out) hlb hl (hC.of_below BU.out) hz
  have H51 : Hid (∀ W, Below w.heap.size w W → Calls Tryz.prog 51 #[.agg #[.int .i64 z, .slice a l.length c], .string u, .slice x l.length y] W fun e w' => (∃ a' c', e = .returned (.slice a' l.length c') ∧ SLL w' a' q) ∧ Below W.heap.size W w') := C51
  have H46 : Hid (∀ W tb x y, TW U.heap.size U W tb (sT z l label) → SLL W x q → Calls Tryz.prog 46 #[.pointer (some ⟨tb, 0, none⟩), .slice x l.length y] W fun e w' => e = .returned (.tuple #[]) ∧ TW U.heap.size U w' tb (firS q (sT z l label)) ∧ F.But tb W w') := fun W tb x y hA hq => by
    have := tellFirsts46 (c := y) hA U3 (by omega) hq hqz
    rw [hql] at this
    exact this
  have H48 : Hid (∀ W tb, TW U.heap.size U W tb (firS q (sT z l label)) → Calls Tryz.prog 48 #[.agg #[.int .i64 z], .pointer (some ⟨tb, 0, none⟩), .string chaB] W fun e w' => e = .returned (.string u) ∧ TW U.heap.size U w' tb (ak chaB (firS q (sT z l label))) ∧ F.But tb W w') := fun W tb hA => C48 _ _ _ _ hA U3
  have c0 := I1.out.cell 0 (by simp)
  have c1 := I1.out.cell 1 (by simp)
  clear hT hC hz hql hqz C51 C48
  generalize sT z l label = st at *
  go_enter Tryz.func22, Tryz.ntmps22
  go_upto_region 1 with fail
  rw [← hU]
  clear hU
  go_upto_region 3 with (first
    | (go_at_call 43; refine (H43.out).mono ?_; rintro e V1 ⟨tb, rfl, hA⟩; have A1 : Hid (TW U.heap.size U V1 tb st) := hA; have J1 : Hid (IHolds V1 w.heap.size 53 [.int .i64 z, .slice a l.length c]) := I1.out.of_below hA.bl; have J2 : Hid (IHolds V1 (w.heap.size + 1) 28 [.string u, .slice x l.length y]) := I2.out.of_below hA.bl; have d0 := J1.out.cell 0 (by simp); have d1 := J1.out.cell 1 (by simp); have d2 := J2.out.cell 0 (by simp); have d3 := J2.out.cell 1 (by simp); have BW1 : Hid (Below w.heap.size w V1) := BU.out.trans (hA.bl.mono BU.out.size); have le1 : Hid (U.heap.size ≤ tb) := hA.le; clear hA H43 c0 c1)
    | (go_at_call 51; refine (H51.out _ BW1.out).mono ?_; rintro e V2 ⟨⟨x2, y2, rfl, hQ⟩, hB⟩; have Q2 : Hid (SLL V2 x2 q) := hQ; have A2 : Hid (TW U.heap.size U V2 tb st) := A1.out.below hB; have K1 : Hid (IHolds V2 w.heap.size 53 [.int .i64 z, .slice a l.length c]) := J1.out.of_below hB; have K2 : Hid (IHolds V2 (w.heap.size + 1) 28 [.string u, .slice x l.length y]) := J2.out.of_below hB; clear hQ hB H51 A1 J1 J2 d0 d1 d2 d3)
    | (go_at_call 46; refine (H46.out _ _ _ _ A2.out Q2.out).mono ?_; rintro e V3 ⟨rfl, hA, hB⟩; have A3 : Hid (TW U.heap.size U V3 tb (firS q st)) := hA; have L1 : Hid (IHolds V3 w.heap.size 53 [.int .i64 z, .slice a l.length c]) := K1.out.offB hB (by have := I2.out.lt; have := le1.out; omega); have L2 : Hid (IHolds V3 (w.heap.size + 1) 28 [.string u, .slice x l.length y]) := K2.out.offB hB (by have := I2.out.lt; have := le1.out; omega); clear hA hB H46 A2 Q2 K1 K2)
    | fail)
  have n1 : w.heap.size ≠ tb := by have := I2.out.lt; have := le1.out; omega
  have n2 : w.heap.size + 1 ≠ tb := by have := I2.out.lt; have := le1.out; omega
  have A4 : Hid (TW U.heap.size U V3.drew tb (firS q st)) := A3.out.below ((Below.refl _ V3).drew)
  have KS : Hid (∀ V, F.But tb V3 V → V.cell? ⟨w.heap.size, 0, none⟩ = some (.int .i64 z) ∧ V.cell? ⟨w.heap.size + 1, 0, none⟩ = some (.string u)) := fun V hV => ⟨(L1.out.offB hV n1).cell 0 (by simp), (L2.out.offB hV n2).cell 0 (by simp)⟩
  have D3 : Hid (F.But tb V3 V3.drew) := (F.But.refl tb V3).drew
  go_region_held3 (fun V => V.cell? ⟨w.heap.size, 0, none⟩ = some (.int .i64 z) ∧ V.cell? ⟨w.heap.size + 1, 0, none⟩ = some (.string u))
    (first | exact KS.out _ D3.out | exact KS.out _ D4.out | assumption | fail)
    (first
      | (go_at_call 48; refine (H48.out _ _ A4.out).mono ?_; rintro e V4 ⟨rfl, hA, hB⟩; have D4 : Hid (F.But tb V3 V4) := D3.out.trans hB; have BW4 : Hid (Below w.heap.size w V4) := BU.out.trans (hA.bl.mono BU.out.size); clear hA hB H48)
      | fail)
  go_wp2_with fail
  go_ret
  exact ⟨by simp, BW4.out⟩
set_option maxHeartbeats 1000000 in
theorem fits21 {w : World} {z : Int} {a x : Option Addr} {n m c y : Nat} {u : ByteArray} (C41 : ∀ W, Below w.heap.size w W → Calls Tryz.prog 41 #[.agg #[.int .i64 z, .slice a n c], .slice x m y] W fun e w' => e = .returned (.int .i64 0) ∧ Below W.heap.size W w') (C50 : ∀ W, Calls Tryz.prog 50 #[.agg #[.int .i64 z], .string u] W fun e w' => e = .returned (.bool false) ∧ Below W.heap.size W w') :
    Calls Tryz.prog 21 #[.agg #[.int .i64 z, .slice a n c], .agg #[.string u, .slice x m y]] w fun e w' => e = .returned (.bool true) ∧ Below w.heap.size w w' := by
  obtain ⟨U, hU⟩ : ∃ U, U = (w.alloc (.cells #[.int .i64 z, .slice a n c] 53)).alloc (.cells #[.string u, .slice x m y] 28) := ⟨_, rfl⟩
  have BU : Hid (Below w.heap.size w U) := by rw [hU]; exact ((Below.refl _ _).alloc (Nat.le_refl _) _).alloc (by simp) _
  have I1 : Hid (IHolds U w.heap.size 53 [.int .i64 z, .slice a n c]) := by rw [hU]; exact (IHolds.new w 53 [_, _]).alloc _
  have I2 : Hid (IHolds U (w.heap.size + 1) 28 [.string u, .slice x m y]) := by rw [hU]; exact IHolds.new' _ 28 [_, _] (by simp)
  have H41 : Hid (Calls Tryz.prog 41 #[.agg #[.int .i64 z, .slice a n c], .slice x m y] U fun e w' => e = .returned (.int .i64 0) ∧ Below U.heap.size U w') := C41 U BU.out
  have H50 : Hid (∀ W, Calls Tryz.prog 50 #[.agg #[.int .i64 z], .string u] W fun e w' => e = .returned (.bool false) ∧ Below W.heap.size W w') := C50
  have c0 := I1.out.cell 0 (by simp)
  have c1 := I1.out.cell 1 (by simp)
  have c3 := I2.out.cell 1 (by simp)
  clear C41 C50
  go_enter Tryz.func21, Tryz.ntmps21
  go_upto_region 1 with fail
  rw [← hU]
  clear hU
  go_wp2_with (first
    | (go_at_call 41; refine (H41.out).mono ?_; rintro e V1 ⟨rfl, hB⟩; have d0 := (I1.out.of_below hB).cell 0 (by simp); have d2 := (I2.out.of_below hB).cell 0 (by simp); have B1 : Hid (Below w.heap.size w V1) := BU.out.trans (hB.mono BU.out.size); clear hB H41 c0 c1 c3)
    | (go_at_call 50; refine (H50.out _).mono ?_; rintro e V2 ⟨rfl, hB⟩; have B2 : Hid (Below w.heap.size w V2) := B1.out.trans (hB.mono B1.out.size); clear hB H50)
    | fail)
  go_ret
  exact ⟨rfl, B2.out⟩
set_option maxHeartbeats 1000000 in
theorem verify9 {w : World} {z : Int} {a x : Option Addr} {n m c y : Nat} {label u : ByteArray}
    (C18 : ∀ W, Below w.heap.size w W → Calls Tryz.prog 18 #[.int .i64 z, .slice a n c] W fun e w' => e = .returned (.tuple #[.agg #[.int .i64 z, .slice a n c], .int .i64 0]) ∧ Below W.heap.size W w')
    (C21 : ∀ W, Below w.heap.size w W → Calls Tryz.prog 21 #[.agg #[.int .i64 z, .slice a n c], .agg #[.string u, .slice x m y]] W fun e w' => e = .returned (.bool true) ∧ Below W.heap.size W w')
    (C22 : ∀ W, Below w.heap.size w W → Calls Tryz.prog 22 #[.agg #[.int .i64 z, .slice a n c], .string label, .agg #[.string u, .slice x m y]] W fun e w' => e = .returned (.bool true) ∧ Below W.heap.size W w') :
    Calls Tryz.prog 9 #[.int .i64 z, .string label, .slice a n c, .agg #[.string u, .slice x m y]] w fun e w' => e = .returned (.bool true) ∧ Below w.heap.size w w' := by
  obtain ⟨U, hU⟩ : ∃ U, U = w.alloc (.cells #[.string u, .slice x m y] 28) := ⟨_, rfl⟩
  have BU : Hid (Below w.heap.size w U) := by rw [hU]; exact (Below.refl _ _).alloc (Nat.le_refl _) _
  have I2 : Hid (IHolds U w.heap.size 28 [.string u, .slice x m y]) := by rw [hU]; exact IHolds.new _ _ _
  have H18 : Hid (Calls Tryz.prog 18 #[.int .i64 z, .slice a n c] U fun e w' => e = .returned (.tuple #[.agg #[.int .i64 z, .slice a n c], .int .i64 0]) ∧ Below U.heap.size U w') := C18 U BU.out
  have H21 : Hid (∀ W, Below w.heap.size w W → Calls Tryz.prog 21 #[.agg #[.int .i64 z, .slice a n c], .agg #[.string u, .slice x m y]] W fun e w' => e = .returned (.bool true) ∧ Below W.heap.size W w') := C21
  have H22 : Hid (∀ W, Below w.heap.size w W → Calls Tryz.prog 22 #[.agg #[.int .i64 z, .slice a n c], .string label, .agg #[.string u, .slice x m y]] W fun e w' => e = .returned (.bool true) ∧ Below W.heap.size W w') := C22
  clear C18 C21 C22
  go_enter Tryz.func9, Tryz.ntmps9
  go_upto_region 1 with fail
  rw [← hU]
  clear hU
  go_upto_region 2 with (first
    | (go_at_call 18; refine (H18.out).mono ?_; rintro e V1 ⟨rfl, hB⟩; have B1 : Hid (Below w.heap.size w V1) := BU.out.trans (hB.mono BU.out.size); have J2 : Hid (IHolds V1 w.heap.size 28 [.string u, .slice x m y]) := I2.out.of_below hB; clear hB H18)
    | fail)
  obtain ⟨X, hX⟩ : ∃ X, X = V1.alloc (.cells #[.int .i64 z, .slice a n c] 53) := ⟨_, rfl⟩
  have BX : Hid (Below V1.heap.size V1 X) := by rw [hX]; exact (Below.refl _ _).alloc (Nat.le_refl _) _
  have X1 : Hid (IHolds X V1.heap.size 53 [.int .i64 z, .slice a n c]) := by rw [hX]; exact IHolds.new _ _ _
  have X2 : Hid (IHolds X w.heap.size 28 [.string u, .slice x m y]) := J2.out.of_below BX.out
  have B2 : Hid (Below w.heap.size w X) := B1.out.trans (BX.out.mono B1.out.size)
  rw [← hX]
  have c0 := X1.out.cell 0 (by simp)
  have c1 := X1.out.cell 1 (by simp)
  have c2 := X2.out.cell 0 (by simp)
  have c3 := X2.out.cell 1 (by simp)
  generalize V1.heap.size = bs at *
  clear hX BX J2 B1
  go_wp2_with (first
    | (go_at_call 21; refine (H21.out _ B2.out).mono ?_; rintro e V2 ⟨rfl, hB⟩; have B3 : Hid (Below w.heap.size w V2) := B2.out.trans (hB.mono B2.out.size); have d0 := (X1.out.of_below hB).cell 0 (by simp); have d1 := (X1.out.of_below hB).cell 1 (by simp); have d2 := (X2.out.of_below hB).cell 0 (by simp); have d3 := (X2.out.of_below hB).cell 1 (by simp); clear hB H21 c0 c1 c2 c3)
    | (go_at_call 22; refine (H22.out _ B3.out).mono ?_; rintro e V3 ⟨rfl, hB⟩; have B4 : Hid (Below w.heap.size w V3) := B3.out.trans (hB.mono B3.out.size); clear hB H22)
    | fail)
  go_ret
  exact ⟨rfl, B4.out⟩
end Go.Proofs.YtmpiipcllgjhdaaGreatDoor
namespace Go.Proofs.YtmpiipcllgjhdaaGreatDoor
open Go.RowKit Go.Deep Go.PlainAid

set_option maxRecDepth 100000 in
set_option maxHeartbeats 4000000 in
theorem ground0 (w : World) (z : Int) (z1 : (z == 1) = false) (z2 : (z == 2) = false) (z3 : (z == 3) = false) : Calls Tryz.prog 62 #[.int .i64 z] w fun e w' => e = .returned (.tuple #[.agg gz, .bool false]) ∧ Below w.heap.size w w' := by
  have hg : (w.alloc (.cells gz 111)).heap[w.heap.size]? = some (.cells gz 111 (0, 0)) := by
    have h := IHolds.new w 111 gz.toList
    unfold IHolds at h
    rw [Array.toArray_toList] at h
    exact h
  have hi : (Tryz.prog.info? 111).map (·.size) = some gz.size := size70
  have ho : gz.size = gz.size := rfl
  have h1 : gz.all (·.oneCell') = true := by kernel_rfl
  go_enter Tryz.func62, Tryz.ntmps62
  go_wp2_with (first
    | (refine wpList_buildTo rfl 111 _ rfl (some 38) rfl gz (by as_aux_lemma => kernel_rfl) ?_)
    | (refine wpList_store_row rfl 111 (.tmp 2) (.tmp 38) rfl w.heap.size gz rfl rfl 111 gz hg hi ho h1 ?_))
  rw [World.setRow_alloc_new]
  have J : IHolds (w.alloc (.cells gz 111)) w.heap.size 111 gz.toList := by
    have h := IHolds.new w 111 gz.toList
    rw [Array.toArray_toList] at h
    exact h
  exact bodyPost_ret (v := .tuple #[.agg gz.toList.toArray, .bool false]) (results_cell2 Tryz.results62 _ _ w.heap.size 0 gz.toList _ rfl J.range Tryz.underlying111 rfl size70) rfl ⟨by rw [Array.toArray_toList], nB _ _⟩
set_option maxRecDepth 100000 in
set_option maxHeartbeats 2000000 in
theorem base_any {w : World} {g S  : Nat} (c0 : w.cell? ⟨g, 0, none⟩ = some (.int .i64 (S : Int)))   (hS : S ≤ 32) :
    Calls Tryz.prog 34 #[.pointer (some ⟨g, 0, none⟩)] w fun e w' => e = .returned (.tuple #[.string ⟨(beB S (NB 2 0 0 0)).toArray⟩, .int .i64 0]) ∧ Below w.heap.size w w' := by
  have C : Hid (Calls Tryz.prog 65 #[.pointer (some ⟨g, 0, none⟩), .agg #[U 2, U 0, U 0, U 0]] w fun e w' => e = .returned (.tuple #[.string ⟨(beB S (NB 2 0 0 0)).toArray⟩, .int .i64 0]) ∧ Below w.heap.size w w') := told_any c0 (by omega) (by omega) (by omega) (by omega) hS
  generalize (⟨(beB S (NB 2 0 0 0)).toArray⟩ : ByteArray) = T at *
  go_enter Tryz.func34, Tryz.ntmps34
  go_wp2_with fail
  refine C.out.mono ?_
  rintro e U1 ⟨rfl, hb⟩
  have B : Hid (Below w.heap.size w U1) := hb
  clear hb
  go_wp2_with fail
  go_ret2
  exact ⟨rfl, B.out⟩
set_option maxRecDepth 100000 in
set_option maxHeartbeats 2000000 in
theorem on48_51 {t : ByteArray} {w : World} {z : Int} {G : Array Value} (hG : gz.size = G.size) (hi : (Tryz.prog.info? 111).map (·.size) = some G.size) (h1 : G.all (·.oneCell') = true)
    (CG : Hid (∀ W, Calls Tryz.prog 62 #[.int .i64 z] W fun e w' => e = .returned (.tuple #[.agg G, .bool true]) ∧ Below W.heap.size W w')) (HF : Hid (∀ W g, IHolds W g 111 G.toList → Calls Tryz.prog 34 #[.pointer (some ⟨g, 0, none⟩)] W fun e w' => e = .returned (.tuple #[.string t, .int .i64 0]) ∧ Below W.heap.size W w')) :
    Calls Tryz.prog 33 #[.int .i64 z, .func (.func 34) #[] #[]] w fun e w' => e = .returned (.tuple #[.string t, .int .i64 0]) ∧ Below w.heap.size w w' := by
  go_enter Tryz.func33, Tryz.ntmps33
  go_wp2_with fail
  refine (CG.out w).mono ?_
  rintro e U1 ⟨rfl, hb⟩
  have B : Hid (Below w.heap.size w U1) := hb
  clear hb
  have hg : (U1.alloc (.cells gz 111)).heap[U1.heap.size]? = some (.cells gz 111 (0, 0)) := by
    have h := IHolds.new U1 111 gz.toList
    unfold IHolds at h
    rw [Array.toArray_toList] at h
    exact h
  have J : Hid (IHolds (U1.alloc (.cells G 111)) U1.heap.size 111 G.toList) := by
    have h := IHolds.new U1 111 G.toList
    rw [Array.toArray_toList] at h
    exact h
  replace B := aB B (nB U1 (.cells G 111))
  go_wp2_with (refine wpList_store_row rfl 111 (.tmp 6) (.tmp 12) rfl U1.heap.size G rfl rfl 111 gz hg hi hG h1 ?_; rw [World.setRow_alloc_new]; clear hg)
  generalize U1.alloc (.cells G 111) = U2 at *
  refine (HF.out U2 _ J.out).mono ?_
  rintro e U3 ⟨rfl, hb⟩
  replace B := aB B hb
  clear hb
  go_wp2_with fail
  go_ret2
  exact ⟨rfl, B.out⟩
set_option maxRecDepth 100000 in
set_option maxHeartbeats 2000000 in
theorem on48_no (F : Nat) {w : World} {z : Int} {G : Array Value} (hG : gz.size = G.size) (hi : (Tryz.prog.info? 111).map (·.size) = some G.size) (h1 : G.all (·.oneCell') = true)
    (CG : Hid (∀ W, Calls Tryz.prog 62 #[.int .i64 z] W fun e w' => e = .returned (.tuple #[.agg G, .bool false]) ∧ Below W.heap.size W w'))  :
    Calls Tryz.prog 33 #[.int .i64 z, .func (.func F) #[] #[]] w fun e w' => e = .returned (.tuple #[.string ⟨#[]⟩, .int .i64 1]) ∧ Below w.heap.size w w' := by
  go_enter Tryz.func33, Tryz.ntmps33
  go_wp2_with fail
  refine (CG.out w).mono ?_
  rintro e U1 ⟨rfl, hb⟩
  have B : Hid (Below w.heap.size w U1) := hb
  clear hb
  have hg : (U1.alloc (.cells gz 111)).heap[U1.heap.size]? = some (.cells gz 111 (0, 0)) := by
    have h := IHolds.new U1 111 gz.toList
    unfold IHolds at h
    rw [Array.toArray_toList] at h
    exact h
  have J : Hid (IHolds (U1.alloc (.cells G 111)) U1.heap.size 111 G.toList) := by
    have h := IHolds.new U1 111 G.toList
    rw [Array.toArray_toList] at h
    exact h
  replace B := aB B (nB U1 (.cells G 111))
  go_wp2_with (refine wpList_store_row rfl 111 (.tmp 6) (.tmp 12) rfl U1.heap.size G rfl rfl 111 gz hg hi hG h1 ?_; rw [World.setRow_alloc_new]; clear hg)
  go_ret2
  exact ⟨rfl, B.out⟩
set_option maxRecDepth 100000 in
set_option maxHeartbeats 2000000 in
theorem base_call {w : World} {z : Int} {t : ByteArray} {c : Int} (H : Hid (Calls Tryz.prog 33 #[.int .i64 z, .func (.func 34) #[] #[]] w fun e w' => e = .returned (.tuple #[.string t, .int .i64 c]) ∧ Below w.heap.size w w')) :
    Calls Tryz.prog 15 #[.int .i64 z] w fun e w' => e = .returned (.tuple #[.string t, .int .i64 c]) ∧ Below w.heap.size w w' := by
  go_enter Tryz.func15, Tryz.ntmps15
  go_wp2_with fail
  refine H.out.mono ?_
  rintro e U1 ⟨rfl, hb⟩
  have B : Hid (Below w.heap.size w U1) := hb
  clear hb
  go_wp2_with fail
  go_ret2
  exact ⟨rfl, B.out⟩
theorem all_not {α : Type} (p : α → Bool) {l : List α} {i : Nat} (h : i < l.length) (hp : p l[i] = false) : l.all p = false := by
  rw [List.all_eq_false]; exact ⟨l[i], List.getElem_mem h, by simp [hp]⟩
set_option maxRecDepth 100000 in
set_option maxHeartbeats 2000000 in
theorem clos96_59_bad {w : World} {g q1 q2 q3  : Nat} {s : ByteArray} {x0 x1 x2 x3 z0 z1 z2 z3 : Nat} {c : Int} (hc : (c != 0) = true) (hc1 : c ≠ 0) (J1 : Hid (IHolds w q1 117 [.func (.func 32) #[] #[]])) (J2 : Hid (IHolds w q2 9 [.string s])) 
    (C1 : Hid (∀ W, Below w.heap.size w W → Calls Tryz.prog 32 #[.pointer (some ⟨g, 0, none⟩), .string s] W fun e w' => e = .returned (.tuple #[.agg #[U z0, U z1, U z2, U z3], .int .i64 c]) ∧ Below W.heap.size W w'))  :
    Calls Tryz.prog 67 #[.pointer (some ⟨g, 0, none⟩), .agg #[U x0, U x1, U x2, U x3], .pointer (some ⟨q1, 0, none⟩), .pointer (some ⟨q2, 0, none⟩), .pointer (some ⟨q3, 0, none⟩)] w fun e w' => e = .returned (.tuple #[.string ⟨#[]⟩, .int .i64 c]) ∧ Below w.heap.size w w' := by
  have hb := nB w (.cells #[U x0, U x1, U x2, U x3] 73)
  have B : Hid (Below w.heap.size w (w.alloc (.cells #[U x0, U x1, U x2, U x3] 73))) := hb
  have Jx : Hid (IHolds (w.alloc (.cells #[U x0, U x1, U x2, U x3] 73)) w.heap.size 73 [U x0, U x1, U x2, U x3]) := IHolds.new w 73 _
  replace J1 := aJ J1 hb
  replace J2 := aJ J2 hb
  clear hb
  have zs0 : (w.alloc (.cells #[U x0, U x1, U x2, U x3] 73)).cell? ⟨q1, 0, none⟩ = some (.func (.func 32) #[] #[]) := J1.out.cell 0 (by simp)
  have zs1 : (w.alloc (.cells #[U x0, U x1, U x2, U x3] 73)).cell? ⟨q2, 0, none⟩ = some (.string s) := J2.out.cell 0 (by simp)
  go_enter Tryz.func67, Tryz.ntmps67
  go_wp2_with fail
  clear zs0 zs1
  generalize (w.alloc (.cells #[U x0, U x1, U x2, U x3] 73)) = V0 at *
  refine (C1.out V0 B.out).mono ?_
  rintro e U1 ⟨rfl, hb⟩
  replace B := aB B hb
  replace Jx := aJ Jx hb
  clear hb
  replace B := aB B (nB U1 (.cells #[U z0, U z1, U z2, U z3] 73))
  go_wp2_with fail
  go_ret2
  exact ⟨rfl, B.out⟩
section
variable {z : Int} {G : Array Value} {S Wd M low one sq Ri Wd2 M2 low2 one2 sq2 Ri2 : Nat}
theorem scalar_nay (k : KD z G S Wd M low one sq Ri Wd2 M2 low2 one2 sq2 Ri2) {w : World} {g : Nat} (F : GH w g S Wd M low one sq Wd2 M2 low2 one2 sq2) {s : ByteArray} (h : isSc S M s = false) :
    Calls Tryz.prog 32 #[.pointer (some ⟨g, 0, none⟩), .string s] w fun e w' => e = .returned (.tuple #[A4 0, .int .i64 6]) ∧ Below w.heap.size w w' := by
  have q := scalarA F s k.hS k.big
  rw [h, if_neg (by simp), if_neg (by simp)] at q
  exact q
theorem power_nay2 (k : KD z G S Wd M low one sq Ri Wd2 M2 low2 one2 sq2 Ri2) (w : World) {a b : ByteArray} (h : isEl S M a = true) (h' : isSc S M b = false) :
    Calls Tryz.prog 17 #[.int .i64 z, .string a, .string b] w fun e w' => e = .returned (.tuple #[.string ⟨#[]⟩, .int .i64 6]) ∧ Below w.heap.size w w' :=
  power_face (withTwo_any (fun W2 q1 q2 q3 k1 k2 k3 hb2 => withOne_any (fun W3 p1 p2 p3 j1 j2 j3 hb3 => on48_88 k.hG k.hi k.h1 k.CG (fun W4 g hI hb4 =>
    clos88_61_96 (j1.of_below hb4) (j2.of_below hb4) (j3.of_below hb4) (fun W5 hb5 => elem_yes k ((k.gh W4 g hI).of_below hb5) h)
      (fun W5 hb5 => clos96_59_bad rfl (by decide) (((k1.of_below hb3).of_below hb4).of_below hb5) (((k2.of_below hb3).of_below hb4).of_below hb5) (fun W6 hb6 => scalar_nay k (((k.gh W4 g hI).of_below hb5).of_below hb6) h'))))))
/-! The reference's. -/
theorem bas_call (k : KD z G S Wd M low one sq Ri Wd2 M2 low2 one2 sq2 Ri2) (w : World) : Calls Tryz.prog 15 #[.int .i64 z] w fun e w' => e = .returned (.tuple #[.string (TX S 2), .int .i64 0]) ∧ Below w.heap.size w w' :=
  base_call (on48_51 k.hG k.hi k.h1 k.CG (fun W g h => base_any (k.gh W g h).c k.hS))
theorem BAS (k : KD z G S Wd M low one sq Ri Wd2 M2 low2 one2 sq2 Ri2) (h : PK S M M2) (W : World) : Calls Tryz.prog 15 #[.int .i64 z] W fun e w' => e = .returned (.tuple #[.string (EX S M M2 2), .int .i64 0]) ∧ Below W.heap.size W w' := by
  rw [h.two]; exact bas_call k W
theorem SCA (k : KD z G S Wd M low one sq Ri Wd2 M2 low2 one2 sq2 Ri2) {s : ByteArray} {t : Bool} (hs : isSc S M s = t) (W : World) : Calls Tryz.prog 14 #[.int .i64 z, .string s] W fun e w' => e = .returned (.bool t) ∧ Below W.heap.size W w' := by
  rw [← hs]; exact scal_call k W s
theorem MEM (k : KD z G S Wd M low one sq Ri Wd2 M2 low2 one2 sq2 Ri2) {s : ByteArray} {t : Bool} (hs : isEl S M s = t) (W : World) : Calls Tryz.prog 16 #[.int .i64 z, .string s] W fun e w' => e = .returned (.bool t) ∧ Below W.heap.size W w' := by
  rw [← hs]; exact memb_call k W s
end
theorem alive11 {w : World} (h : ∀ W, Calls Tryz.prog 14 #[.int .i64 1, .string ⟨#[0, 5]⟩] W fun e w' => e = .returned (.bool true) ∧ Below W.heap.size W w') : Calls Tryz.prog 5 #[] w fun e w' => e = .returned (.bool true) ∧ Below w.heap.size w w' := by
  go_enter Tryz.func5, Tryz.ntmps5
  go_wp2_with (go_at_call 14; refine (h _).mono ?_; rintro e w1 ⟨rfl, hB1⟩)
  go_ret
  exact ⟨rfl, hB1⟩
theorem alive_any (w : World) : Calls Tryz.prog 5 #[] w fun e w' => e = .returned (.bool true) ∧ Below w.heap.size w w' :=
  alive11 (fun V => SCA kd1 (s := ⟨#[0, 5]⟩) (t := true) (by decide +kernel) V)
end Go.Proofs.YtmpiipcllgjhdaaGreatDoor
namespace Go.Proofs.YtmpiipcllgjhdaaGreatDoor
open Go.RowKit Go.Deep Go.PlainAid

/-- Claims as the cells hold them: each is two slices of two texts. -/
def cellsC : List (Nat × Nat) → List Value
  | [] => []
  | p :: l => .slice (some ⟨p.1, 0, none⟩) 2 2 :: .slice (some ⟨p.2, 0, none⟩) 2 2 :: cellsC l
theorem cellsC_len : ∀ l, (cellsC l).length = l.length * 2
  | [] => rfl
  | p :: l => by simp [cellsC, cellsC_len l]; omega
theorem cellsC_append : ∀ l r, cellsC (l ++ r) = cellsC l ++ cellsC r
  | [], r => rfl
  | p :: l, r => by simp [cellsC, cellsC_append l r]
theorem cellsC_at : ∀ (l : List (Nat × Nat)) (i : Nat) (h : i < l.length), (cellsC l)[i * 2]? = some (.slice (some ⟨(l[i]).1, 0, none⟩) 2 2) ∧ (cellsC l)[i * 2 + 1]? = some (.slice (some ⟨(l[i]).2, 0, none⟩) 2 2)
  | [], i, h => by simp at h
  | p :: l, 0, h => by simp [cellsC]
  | p :: l, i + 1, h => by
    have := cellsC_at l i (by simpa using h)
    rw [show (i + 1) * 2 = i * 2 + 1 + 1 by omega, cellsC]
    simpa using this
/-- A list of claims, laid out of its own. -/
structure MD (w : World) (b0 : Nat) (v : Value) (xs : List ByteArray) (f g : ByteArray → ByteArray) (bs ot : ByteArray) (B : List (Nat × Nat)) : Prop where
  len : B.length = xs.length
  own : w.ownsRow b0 36 2 v xs.length (cellsC B)
  each : ∀ i (h : i < B.length) (h' : i < xs.length), IHolds w (B[i]).1 9 [.string bs, .string ot] ∧ IHolds w (B[i]).2 9 [.string (f xs[i]), .string (g xs[i])] ∧ (B[i]).1 ≠ (B[i]).2 ∧ b0 ≤ (B[i]).2
theorem MD.begin (w : World) (b0 : Nat) (f g : ByteArray → ByteArray) (bs ot : ByteArray) : MD w b0 (.slice none 0 0) [] f g bs ot [] :=
  ⟨rfl, ⟨rfl, Or.inl ⟨rfl, rfl⟩⟩, fun i h => by simp at h⟩
theorem MD.of_below {w w' : World} {b0 : Nat} {v : Value} {xs : List ByteArray} {f g : ByteArray → ByteArray} {bs ot : ByteArray} {B : List (Nat × Nat)} (h : MD w b0 v xs f g bs ot B) (hb : Below w.heap.size w w') : MD w' b0 v xs f g bs ot B := by
  refine ⟨h.len, ?_, fun i h1 h2 => ?_⟩
  · obtain ⟨hl, ⟨rfl, h0⟩ | ⟨r, cap, cur, rfl, q1, hg, q2, q3, q4, q5⟩⟩ := h.own
    · exact ⟨hl, Or.inl ⟨rfl, h0⟩⟩
    · exact ⟨hl, Or.inr ⟨r, cap, cur, rfl, q1, by rw [hb.block r (Array.getElem?_eq_some_iff.1 hg).1]; exact hg, q2, q3, q4, q5⟩⟩
  · obtain ⟨k1, k2, k3, k4⟩ := h.each i h1 h2
    exact ⟨k1.of_below hb, k2.of_below hb, k3, k4⟩
theorem own_apart {w : World} {b0 n b : Nat} {v : Value} {cs L : List Value} (h : w.ownsRow b0 36 2 v n cs) (hI : IHolds w b 9 L) : v.ownBlock ≠ some b := by
  obtain ⟨hl, ⟨rfl, h0⟩ | ⟨r, cap, cur, rfl, q1, hg, q2, q3, q4, q5⟩⟩ := h
  · intro e; cases e
  · intro e
    have e' : r = b := by simpa [Value.ownBlock] using e
    subst e'
    unfold IHolds at hI
    rw [hg] at hI
    cases hI
theorem IHolds.grown {w w' : World} {b : Nat} {T : TypeId} {L : List Value} {row : Option Nat} (h : IHolds w b T L) (hg : w.grownBy w' row) (hne : row ≠ some b) : IHolds w' b T L := by
  unfold IHolds
  rw [hg.block b h.lt (fun e => hne e.symm)]
  exact h
theorem MD.step {w w' : World} {b0 : Nat} {v v' : Value} {xs : List ByteArray} {f g : ByteArray → ByteArray} {bs ot x : ByteArray} {B : List (Nat × Nat)} (h : MD w b0 v xs f g bs ot B) {p q : Nat}
    (hown : w'.ownsRow b0 36 2 v' (xs.length + 1) (cellsC B ++ cellsC [(p, q)])) (hgr : w.grownBy w' v.ownBlock) (hp : IHolds w p 9 [.string bs, .string ot]) (hq : IHolds w q 9 [.string (f x), .string (g x)]) (hne : p ≠ q) (hb : b0 ≤ q) :
    MD w' b0 v' (xs ++ [x]) f g bs ot (B ++ [(p, q)]) := by
  refine ⟨by simp [h.len], by rw [cellsC_append, List.length_append]; exact hown, fun i h1 h2 => ?_⟩
  have keep : ∀ {b : Nat} {L : List Value}, IHolds w b 9 L → IHolds w' b 9 L := fun hI => hI.grown hgr (own_apart h.own hI)
  by_cases hi : i < B.length
  · have hi' : i < xs.length := by rw [← h.len]; exact hi
    obtain ⟨k1, k2, k3, k4⟩ := h.each i hi hi'
    rw [List.getElem_append_left hi, List.getElem_append_left hi']
    exact ⟨keep k1, keep k2, k3, k4⟩
  · have e : i = B.length := by simp at h1; omega
    have e' : i = xs.length := by rw [← h.len]; exact e
    have g1 : (B ++ [(p, q)])[i] = (p, q) := by simp [e]
    have g2 : (xs ++ [x])[i] = x := by simp [e']
    rw [g1, g2]
    exact ⟨keep hp, keep hq, hne, hb⟩
theorem two_sl {w : World} {b : Nat} {x y : ByteArray} (h : IHolds w b 9 [.string x, .string y]) : SL w (some ⟨b, 0, none⟩) [x, y] := IHolds.sl (q := [x, y]) h
theorem MD.cm {w : World} {b0 : Nat} {v : Value} {xs : List ByteArray} {f g : ByteArray → ByteArray} {bs ot : ByteArray} {B : List (Nat × Nat)} (h : MD w b0 v xs f g bs ot B) : ∃ a c, v = .slice a xs.length c ∧ CM w a (xs.map fun x => ([bs, ot], [f x, g x])) := by
  obtain ⟨hl, ⟨rfl, h0⟩ | ⟨r, cap, cur, rfl, q1, hg, q2, q3, q4, q5⟩⟩ := h.own
  · exact ⟨none, 0, by rw [h0], fun i hi => by simp at hi; omega⟩
  · refine ⟨_, _, rfl, fun i hi => ?_⟩
    have hi' : i < xs.length := by simpa using hi
    have hB : i < B.length := by rw [h.len]; exact hi'
    obtain ⟨k1, k2, _, _⟩ := h.each i hB hi'
    obtain ⟨g1, g2⟩ := cellsC_at B i hB
    have cell : ∀ j u, j < xs.length * 2 → (cellsC B)[j]? = some u → w.cell? ⟨r, 0 + j, none⟩ = some u := fun j u hj hu => by
      rw [← q5, List.getElem?_take_of_lt hj, Array.getElem?_toList] at hu
      rw [Nat.zero_add]
      unfold World.cell?
      simp [hg, hu]
    refine ⟨r, 0, some ⟨(B[i]).1, 0, none⟩, 2, some ⟨(B[i]).2, 0, none⟩, 2, rfl, ?_, ?_, ?_, ?_⟩
    · simpa using cell _ _ (by omega) g1
    · have := cell _ _ (by omega) g2
      simpa [Nat.add_assoc] using this
    · simpa using two_sl k1
    · simpa using two_sl k2
theorem Tryz.info48' : (Tryz.prog.info? 36).map (fun i => (i.zero, i.size, i.bytes)) = some (some (.agg #[.slice none 0 0, .slice none 0 0]), 2, 48) := by kernel_rfl
theorem made12_no1 {w : World} {z : Int} {ot r : ByteArray} {v : Value} {c : Int} (hc : (c != 0) = true) (CB : ∀ W, Calls Tryz.prog 15 #[.int .i64 z] W fun e w' => e = .returned (.tuple #[.string r, .int .i64 c]) ∧ Below W.heap.size W w') :
    Calls Tryz.prog 6 #[.int .i64 z, .string ot, v] w fun e w' => e = .returned (.slice none 0 0) ∧ Below w.heap.size w w' := by
  go_enter Tryz.func6, Tryz.ntmps6
  go_wp2_with (go_at_call 15; refine (CB _).mono ?_; rintro e w1 ⟨rfl, hB1⟩)
  go_ret
  exact ⟨rfl, hB1⟩
theorem made12_no2 {w : World} {z : Int} {ot r : ByteArray} {v : Value} (CB : ∀ W, Calls Tryz.prog 15 #[.int .i64 z] W fun e w' => e = .returned (.tuple #[.string r, .int .i64 0]) ∧ Below W.heap.size W w')
    (CM' : ∀ W, Calls Tryz.prog 16 #[.int .i64 z, .string ot] W fun e w' => e = .returned (.bool false) ∧ Below W.heap.size W w') :
    Calls Tryz.prog 6 #[.int .i64 z, .string ot, v] w fun e w' => e = .returned (.slice none 0 0) ∧ Below w.heap.size w w' := by
  have H1 : Hid _ := CB
  have H2 : Hid _ := CM'
  clear CB CM'
  go_enter Tryz.func6, Tryz.ntmps6
  go_wp2_with (first
    | (go_at_call 15; refine (H1.out _).mono ?_; rintro e w1 ⟨rfl, hB1⟩; have B1 : Hid (Below w.heap.size w w1) := hB1; clear hB1)
    | (go_at_call 16; refine (H2.out _).mono ?_; rintro e w2 ⟨rfl, hB2⟩; have B2 : Hid (Below w.heap.size w w2) := B1.out.trans (hB2.mono B1.out.size); clear hB2))
  go_ret
  exact ⟨rfl, B2.out⟩
theorem news_of {w : World} {b : Nat} {T : TypeId} {L : List Value} (h : IHolds w b T L) : ∀ j u, L[j]? = some u → w.cell? ((⟨b, 0, none⟩ : Addr).add j) = some u := fun j u hu => by
  obtain ⟨hj, e⟩ := List.getElem?_eq_some_iff.1 hu
  have hc := h.cell j hj
  rw [e] at hc
  unfold Addr.add
  by_cases h0 : j = 0
  · subst h0; simpa using hc
  · simpa [h0] using hc
theorem cellsC_one : ∀ l, ∀ u ∈ cellsC l, u.oneCell' = true
  | [], u, h => by simp [cellsC] at h
  | p :: l, u, h => by
    simp only [cellsC, List.mem_cons] at h
    rcases h with rfl | rfl | h
    · rfl
    · rfl
    · exact cellsC_one l u h
theorem three (w4 : World) (bs ot fx gx : ByteArray) : ∃ W7, ((w4.alloc (.cells #[.string bs, .string ot] 9)).alloc (.cells #[.string fx, .string gx] 9)).alloc (.cells #[.slice (some ⟨w4.heap.size, 0, none⟩) 2 2, .slice (some ⟨w4.heap.size + 1, 0, none⟩) 2 2] 36) = W7 ∧ Hid (Below w4.heap.size w4 W7) ∧ Hid (IHolds W7 w4.heap.size 9 [.string bs, .string ot]) ∧ Hid (IHolds W7 (w4.heap.size + 1) 9 [.string fx, .string gx]) ∧ Hid (IHolds W7 (w4.heap.size + 1 + 1) 36 (cellsC [(w4.heap.size, w4.heap.size + 1)])) := by
  refine ⟨_, rfl, ?_, ?_, ?_, ?_⟩
  · exact (((Below.refl _ _).alloc (Nat.le_refl _) _).alloc (by simp) _).alloc (by simp; omega) _
  · exact ((IHolds.new w4 9 [_, _]).alloc _).alloc _
  · exact (IHolds.new' _ 9 [_, _] (by simp)).alloc _
  · exact IHolds.new' _ 36 [_, _] (by simp)
/-- What is made of secrets. -/
def Made (p : ByteArray → Bool) (f g : ByteArray → ByteArray) (bs ot : ByteArray) (l : List ByteArray) (b0 : Nat) (e : Ending) (w' : World) : Prop :=
  (l.all p = true ∧ ∃ v B, e = .returned v ∧ MD w' b0 v l f g bs ot B) ∨ (l.all p = false ∧ e = .returned (.slice none 0 0))
set_option maxHeartbeats 4000000 in
theorem made12 {w : World} {z : Int} {a : Option Addr} {l : List ByteArray} {c : Nat} {bs ot : ByteArray} {p : ByteArray → Bool} {f g : ByteArray → ByteArray} (hl : l.length ≤ 1048576) (hs : SL w a l)
    (CB : ∀ W, Calls Tryz.prog 15 #[.int .i64 z] W fun e w' => e = .returned (.tuple #[.string bs, .int .i64 0]) ∧ Below W.heap.size W w')
    (CM' : ∀ W, Calls Tryz.prog 16 #[.int .i64 z, .string ot] W fun e w' => e = .returned (.bool true) ∧ Below W.heap.size W w')
    (CY : ∀ x, p x = true → ∀ W, (Calls Tryz.prog 17 #[.int .i64 z, .string bs, .string x] W fun e w' => e = .returned (.tuple #[.string (f x), .int .i64 0]) ∧ Below W.heap.size W w') ∧ (Calls Tryz.prog 17 #[.int .i64 z, .string ot, .string x] W fun e w' => e = .returned (.tuple #[.string (g x), .int .i64 0]) ∧ Below W.heap.size W w'))
    (CN : ∀ x, p x = false → ∀ W, (Calls Tryz.prog 17 #[.int .i64 z, .string bs, .string x] W fun e w' => e = .returned (.tuple #[.string ⟨#[]⟩, .int .i64 6]) ∧ Below W.heap.size W w') ∧ (Calls Tryz.prog 17 #[.int .i64 z, .string ot, .string x] W fun e w' => e = .returned (.tuple #[.string ⟨#[]⟩, .int .i64 6]) ∧ Below W.heap.size W w')) :
    Calls Tryz.prog 6 #[.int .i64 z, .string ot, .slice a l.length c] w fun e w' => Made p f g bs ot l w.heap.size e w' ∧ Below w.heap.size w w' := by
  have H1 : Hid _ := CB
  have H2 : Hid _ := CM'
  have HY : Hid _ := CY
  have HN : Hid _ := CN
  have HS : Hid (SL w a l) := hs
  obtain ⟨i0, hi0, hz0, hz1, hz2⟩ := info_parts Tryz.info48'
  clear CB CM' CY CN hs
  go_enter Tryz.func6, Tryz.ntmps6
  go_wp2_with (first
    | (go_at_call 15; refine (H1.out _).mono ?_; rintro e w1 ⟨rfl, hB1⟩; have B1 : Hid (Below w.heap.size w w1) := hB1; clear hB1)
    | (go_at_call 16; refine (H2.out _).mono ?_; rintro e w2 ⟨rfl, hB2⟩; have B2 : Hid (Below w.heap.size w w2) := B1.out.trans (hB2.mono B1.out.size); clear hB2))
  go_loopg [9, 11, 12, 13, 14, 15, 31] l.length (fun gk v9 v11 v12 v13 v14 v15 v31 wr => ∃ (i : Nat) (B : List (Nat × Nat)), i + gk = l.length ∧ v31 = .int .i64 (i : Int) ∧ Below w.heap.size w wr ∧ (l.take i).all p = true ∧ MD wr w.heap.size v9 (l.take i) f g bs ot B)
  case atStart => exact ⟨0, [], by omega, rfl, B2.out, by simp, MD.begin _ _ _ _ _ _⟩
  case round =>
    obtain ⟨i, B, hig, rfl, hB, hA, hM⟩ := hrel
    have BB : Hid (Below w.heap.size w wr) := hB
    have HA : Hid _ := hA
    have HM : Hid _ := hM
    clear hB hA hM B1 B2 H1 H2
    by_cases hi : i < l.length
    · obtain ⟨b, o, rfl, hc⟩ := HS.out.of_below BB.out i hi
      have il : (i : Int) < (l.length : Int) := by omega
      have HT : Hid _ := List.take_succ_eq_append_getElem hi
      have HF : Hid (p l[i] = false → l.all p = false) := all_not p hi
      have HLn : Hid ((l.take i).length = i) := by show _ = _; simp; omega
      generalize l[i] = x at *
      cases hp : p x with
      | false =>
        have HX1 : Hid (∀ W, Calls Tryz.prog 17 #[.int .i64 z, .string bs, .string x] W fun e w' => e = .returned (.tuple #[.string ⟨#[]⟩, .int .i64 6]) ∧ Below W.heap.size W w') := fun W => (HN.out x hp W).1
        have HX2 : Hid (∀ W, Calls Tryz.prog 17 #[.int .i64 z, .string ot, .string x] W fun e w' => e = .returned (.tuple #[.string ⟨#[]⟩, .int .i64 6]) ∧ Below W.heap.size W w') := fun W => (HN.out x hp W).2
        have HZ : Hid _ := HF.out hp
        clear HY HN HF HM HT HA
        go_wp2_with (go_at_call 17; first
          | (have zz := BB.out; clear zz; refine (HX1.out _).mono ?_; rintro e w3 ⟨rfl, hB3⟩; have B3 : Hid (Below w.heap.size w w3) := BB.out.trans (hB3.mono BB.out.size); clear hB3 BB)
          | (have zz := B3.out; clear zz; refine (HX2.out _).mono ?_; rintro e w4 ⟨rfl, hB4⟩; have B4 : Hid (Below w.heap.size w w4) := B3.out.trans (hB4.mono B3.out.size); clear hB4 B3))
        go_ret
        exact ⟨Or.inr ⟨HZ.out, rfl⟩, B4.out⟩
      | true =>
        have HX1 : Hid (∀ W, Calls Tryz.prog 17 #[.int .i64 z, .string bs, .string x] W fun e w' => e = .returned (.tuple #[.string (f x), .int .i64 0]) ∧ Below W.heap.size W w') := fun W => (HY.out x hp W).1
        have HX2 : Hid (∀ W, Calls Tryz.prog 17 #[.int .i64 z, .string ot, .string x] W fun e w' => e = .returned (.tuple #[.string (g x), .int .i64 0]) ∧ Below W.heap.size W w') := fun W => (HY.out x hp W).2
        have HP : Hid (p x = true) := hp
        clear HY HN HF hp
        go_wp2_with (first
          | (go_at_call 17; have zz := BB.out; clear zz; refine (HX1.out _).mono ?_; rintro e w3 ⟨rfl, hB3⟩; have B3 : Hid (Below w.heap.size w w3) := BB.out.trans (hB3.mono BB.out.size); have M3 : Hid _ := HM.out.of_below hB3; clear hB3 BB HM)
          | (go_at_call 17; have zz := B3.out; clear zz; refine (HX2.out _).mono ?_; rintro e w4 ⟨rfl, hB4⟩; have B4 : Hid (Below w.heap.size w w4) := B3.out.trans (hB4.mono B3.out.size); have M4 : Hid _ := M3.out.of_below hB4; clear hB4 B3 M3; obtain ⟨W7, hW, BW, J1, J2, J3⟩ := three w4 bs ot (f x) (g x); have M7 : Hid _ := M4.out.of_below BW.out; have B7 : Hid (Below w.heap.size w W7) := B4.out.trans (BW.out.mono B4.out.size); have hle : Hid (w.heap.size ≤ w4.heap.size) := B4.out.size; clear M4 B4 BW; have HOwn : Hid (W7.ownsRow w.heap.size 36 2 u9 i (cellsC B)) := by (have h := M7.out.own; rw [HLn.out] at h; first | done | exact h))
          | (at_builtin; refine wpList_append_own _ rfl (.tmp 55) (.tmp 63) 24 rfl w.heap.size 36 i0 (.agg #[.slice none 0 0, .slice none 0 0]) 2 48 Tryz.underlying24 hi0 hz0 hz1 hz2 rfl (by decide) u9 i (cellsC B) rfl HOwn.out ⟨w4.heap.size + 1 + 1, 0, none⟩ 1 1 (cellsC [(w4.heap.size, w4.heap.size + 1)]) rfl rfl (news_of J3.out) (cellsC_one _) (by unfold maxLen; omega) (by omega) B7.out.size ?_; intro v2 w8 hown hgrow hn; have B8 : Hid (Below w.heap.size w w8) := B7.out.grown hgrow B7.out.size (fun k hk => (HOwn.out.lt k hk).1); have M8 : Hid (MD w8 w.heap.size v2 (l.take i ++ [x]) f g bs ot (B ++ [(w4.heap.size, w4.heap.size + 1)])) := MD.step M7.out (by rw [HLn.out]; exact hown) hgrow J1.out J2.out (by omega) (by have := hle.out; omega); clear hown hgrow hn))
        have HA2 : Hid ((l.take (i + 1)).all p = true) := by show _ = _; rw [HT.out, List.all_append, HA.out]; simp [HP.out]
        rw [← HT.out] at M8
        go_roundg (gk - 1)
        case measure => omega
        case rel => exact ⟨i + 1, _, by omega, by go_num, B8.out, HA2.out, M8.out⟩
    · have il : ¬ (i : Int) < (l.length : Int) := by omega
      have e : i = l.length := by omega
      have HA2 : Hid (l.all p = true) := by have h := HA.out; rw [e, List.take_length] at h; exact h
      have HM2 : Hid (MD wr w.heap.size u9 l f g bs ot B) := by have h := HM.out; rw [e, List.take_length] at h; exact h
      clear e HA HM
      go_wp2_with fail
      go_ret
      exact ⟨Or.inl ⟨HA2.out, _, _, rfl, HM2.out⟩, BB.out⟩
end Go.Proofs.YtmpiipcllgjhdaaGreatDoor
namespace Go.Proofs.YtmpiipcllgjhdaaGreatDoor
open Go.RowKit Go.Deep Go.PlainAid

section
variable {z : Int} {G : Array Value} {S Wd M low one sq Ri Wd2 M2 low2 one2 sq2 Ri2 : Nat}
/-- Powers of the base and of the other one. -/
def pf (S M M2 A : Nat) (s : ByteArray) : ByteArray := EX S M M2 (A ^ numS s)
theorem pow_ok (k : KD z G S Wd M low one sq Ri Wd2 M2 low2 one2 sq2 Ri2) (h : PK S M M2) {A : Nat} (hA : ¬ M2 ∣ A) {x : ByteArray} (hx : isSc S M x = true) (W : World) :
    Calls Tryz.prog 17 #[.int .i64 z, .string (EX S M M2 A), .string x] W fun e w' => e = .returned (.tuple #[.string (pf S M M2 A x), .int .i64 0]) ∧ Below W.heap.size W w' := by
  have q := POW k h (x := A) (t := numS x) hA (isSc_lt hx) W
  rw [← isSc_TX' hx] at q
  exact q
theorem MADE (k : KD z G S Wd M low one sq Ri Wd2 M2 low2 one2 sq2 Ri2) (h : PK S M M2) {A : Nat} (hA : ¬ M2 ∣ A) {l : List ByteArray} (hl : l.length ≤ 1048576) {w : World} {a : Option Addr} {c : Nat} (hs : SL w a l) :
    Calls Tryz.prog 6 #[.int .i64 z, .string (EX S M M2 A), .slice a l.length c] w fun e w' => Made (isSc S M) (pf S M M2 2) (pf S M M2 A) (EX S M M2 2) (EX S M M2 A) l w.heap.size e w' ∧ Below w.heap.size w w' :=
  made12 hl hs (fun W => BAS k h W) (fun W => MEM k (elE k h hA) W) (fun x hx W => ⟨pow_ok k h h.n2 hx W, pow_ok k h hA hx W⟩) (fun x hx W => ⟨power_nay2 k W (elE k h h.n2) hx, power_nay2 k W (elE k h hA) hx⟩)
end
end Go.Proofs.YtmpiipcllgjhdaaGreatDoor
