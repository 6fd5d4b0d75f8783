/- The draws of chapter 3 over parts: DrawKeyOfParts, DrawMouseOfParts. -/
import Derived.Test.YtnmnklilmcpkaaaQSpecMouse3ToKeyFacts
import Derived.Test.YtnmnklilmcpkaaaQPartsSpec
import Derived.Test.YtnmnklilmcpkaaaQPartsBack
import Derived.Test.YtnmnklilmcpkaaaQDrawsP
import Derived.Test.YtnmnklilmcpkaaaQDrawsToDrawsT
import Derived.Test.YtnmnklilmcpkaaaQTakesToMem
namespace Go.Proofs.Ytnmnklilmcpkaaa
open Go.RowKit
set_option linter.unusedVariables false

/-- parts as PartsOf makes them -/
def GoodPt (r : Pt) : Prop := r.nums.length ≤ 4 ∧ (∀ x ∈ r.nums, 0 ≤ x ∧ x ≤ 9999999) ∧ (r.code = 0 ∨ (r.nums = [] ∧ r.fin = 0))
theorem ptOf_goodPt (l : List UInt8) : GoodPt (ptOf l) := ⟨ptOf_small l, ptOf_nums l, ptOf_form l⟩
/-- what a draw of parts leaves -/
def AnyPt (w : World) (e : Ending) (w' : World) : Prop := ∃ r p c, e = .returned (ptV r (.slice p r.nums.length c)) ∧ GoodPt r ∧ OwnI w' w.heap.size (.slice p r.nums.length c) r.nums ∧ Below w.heap.size w w'

theorem sets_ownI {b base : Nat} {v : Value} {l : List Int} (hb : b < base) : ∀ (vs : List Value) (i : Nat) (w : World), OwnI w base v l → OwnI (sets w b i vs) base v l
  | [], _, _, h => h
  | _ :: r, i, _, h => sets_ownI hb r (i + 1) _ (h.setBelow (a := ⟨b, i, none⟩) hb _)

set_option maxRecDepth 100000 in
set_option maxHeartbeats 1000000 in
theorem drawKeyOfParts_any (q : Option Addr) (c : Nat) (l : List UInt8) (w : World) (h : Bs w w.heap.size q l) (hl : l.length ≤ 1048576) :
    Calls Try.prog 8 #[.slice q l.length c] w (AnyPt w) := by
  have HD := Lib.hid (fun o => drawPartsOf_any q c l (w.alloc o) (h.alloc o) hl)
  have HR := Lib.hid (AtM.new w [.int .i64 0, .bool false, .slice none 0 0, .int .u8 0, .int .i64 0] 34)
  clear h
  go_enter Try.func8, Try.ntmps8
  go_wp2_with fail
  refine (HD.out _).mono ?_
  rintro e w1 ⟨g, cg, bs, rfl, h24, hcap, hbs, hb1⟩
  have HB1 := Lib.hid hb1
  clear hb1
  go_wp2_with fail
  refine (specPartsOf_any _ _ bs _ hbs hcap (by omega)).mono ?_
  rintro e w2 ⟨v, rfl, ho, hb2⟩
  obtain ⟨p2, c2, hv⟩ := ho.slice
  subst hv
  have hG := ptOf_goodPt bs
  have hres := (HR.out.on HB1.out).on hb2
  obtain ⟨r0, r1, r2, r3, r4⟩ := hres.cells.five
  have hfr := hres.free
  have hsz : w.heap.size < w1.heap.size := (HR.out.on HB1.out).cells.1
  have HE : Hid (∀ vs, AnyPt w (.returned (ptV (ptOf bs) (.slice p2 (ptOf bs).nums.length c2))) (sets w2 w.heap.size 0 vs)) := fun vs =>
    ⟨_, p2, c2, rfl, hG, (sets_ownI hsz vs 0 _ ho).lower (by omega), sets_below (Nat.le_refl _) vs 0 _ _ (below_on (below_on (below_mk w _) HB1.out) hb2)⟩
  generalize ptOf bs = r at *
  clear hG hres ho hb2 hbs
  unfold ptV
  go_wp2_with fail
  refine bodyPost_ret (v := ptV r (.slice p2 r.nums.length c2)) ?_ rfl (HE.out [.int .i64 r.code, .bool r.priv, .slice p2 r.nums.length c2, .int .u8 r.fin, .int .i64 r.size])
  simp [results, Try.results8, ptV, go_sem, r0, r1, r2, r3, r4]

/-- the bytes of a mouse's sequence -/
theorem mouse_bytes (x y z : Nat) : ([60] ++ Lib.decDigits x ++ [59] ++ Lib.decDigits y ++ [59] ++ Lib.decDigits z ++ [77] : List UInt8) = pb true [(x : Int), (y : Int), (z : Int)] 77 := by
  simp [pb, mark, jn, jnR]
theorem mouse_parts (x y z : Nat) (hx : x ≤ 9999999) (hy : y ≤ 9999999) (hz : z ≤ 9999999) : ptOf ([60] ++ Lib.decDigits x ++ [59] ++ Lib.decDigits y ++ [59] ++ Lib.decDigits z ++ [77]) = ⟨0, true, [(x : Int), (y : Int), (z : Int)], 77, ((pb true [(x : Int), (y : Int), (z : Int)] 77).length : Int)⟩ := by
  have := parts_back true [(x : Int), (y : Int), (z : Int)] 77 [] (by decide) (by simp [inNum, inR]; omega) (by simp)
  rw [List.append_nil] at this
  rw [mouse_bytes]
  exact this

end Go.Proofs.Ytnmnklilmcpkaaa

/- DrawMouseOfParts. -/
namespace Go.Proofs.Ytnmnklilmcpkaaa
open Go.RowKit
set_option linter.unusedVariables false

theorem dec3 (n : Nat) (h : n ≤ 201) : (Lib.decDigits n).length ≤ 3 := by
  rw [Lib.decDigits_length]
  rcases Nat.lt_or_ge (Lib.nDigits n) 4 with h1 | h1
  · omega
  · exfalso
    have : 10 ^ (Lib.nDigits n - 1) ≤ n := pow_le_of n (by omega)
    have h2 : 10 ^ 3 ≤ 10 ^ (Lib.nDigits n - 1) := Nat.pow_le_pow_right (by omega) (by omega)
    omega
theorem wp_gen2 {P : Program} {code : Code} {Q : Exit → Act → World → Prop} {a : Act} {W : World} (C : World → Prop) (h : C W) (k : ∀ W', C W' → Code.wp P code Q a W') : Code.wp P code Q a W := k W h
/-- two strings joined, the outcome under a name -/
theorem cat_to (x y L : List UInt8) (h : L = x ++ y) (hx : x.length ≤ 100) (hy : y.length ≤ 100) (w : World) : (Op.stringOp .add ⟨x.toArray⟩ ⟨y.toArray⟩).run Try.prog w = .ok (.string ⟨L.toArray⟩) w := by
  subst h
  exact run_string_add_lists (P := Try.prog) (x := x) (y := y) (hx := by omega) (hy := by omega) w

/-- ahead of the last two choices: the source, the result's block, the parts' block, the numbers -/
def MouseMid (w : World) (q : Option Addr) (c : Nat) (l : List UInt8) (N b B : Nat) (p9 : Option Addr) (c9 : Nat) (nums : List Int) (sz fin : Int) (W : World) : Prop :=
  Src W (w.heap.size + 1) q c l N ∧ Below w.heap.size w W ∧ AtM W w.heap.size [.int .i64 0, .bool false, .slice none 0 0, .int .u8 0, .int .i64 0] ∧ AtM W b [.int .i64 0, .bool true, .slice p9 nums.length c9, .int .u8 fin, .int .i64 sz] ∧ OwnI W B (.slice p9 nums.length c9) nums
theorem MouseMid.far {w : World} {q : Option Addr} {c : Nat} {l : List UInt8} {M b B : Nat} {p9 : Option Addr} {c9 : Nat} {nums : List Int} {sz fin : Int} {W W' : World} {N : Nat} (h : MouseMid w q c l M b B p9 c9 nums sz fin W) (hB : w.heap.size + 1 < B) (hb : w.heap.size + 1 < b) (hs : Src W' (w.heap.size + 1) q c l N) (hg : W.grownBy W' (some (w.heap.size + 1))) :
    MouseMid w q c l N b B p9 c9 nums sz fin W' :=
  ⟨hs, h.2.1.grown hg h.2.1.size (fun k hk => by injection hk; omega), h.2.2.1.far hg (by intro e; injection e; omega), h.2.2.2.1.far hg (by intro e; injection e; omega), h.2.2.2.2.far hg (fun j hj e => by injection e; have := (h.2.2.2.2.lt j hj).1; omega)⟩
theorem MouseMid.fin {w : World} {q : Option Addr} {c : Nat} {l : List UInt8} {M b B : Nat} {p9 : Option Addr} {c9 : Nat} {nums : List Int} {sz fin : Int} {W : World} (h : MouseMid w q c l M b B p9 c9 nums sz fin W) (hbB : B ≤ b) (hB : w.heap.size + 1 < b) (hn : ∀ j, (Value.slice p9 nums.length c9).ownBlock = some j → j < b) (fin' : Int) :
    MouseMid w q c l M b B p9 c9 nums sz fin' (W.setCell ⟨b, 3, none⟩ (.int .u8 fin')) := by
  have hg : W.grownBy (W.setCell ⟨b, 3, none⟩ (.int .u8 fin')) (some b) := ⟨rfl, rfl, rfl, by simp, fun k _ hk => Below.heap_setCell _ _ _ _ (fun e => hk (by rw [e]))⟩
  exact ⟨h.1.grown hg (fun j hj => by injection hj; omega), h.2.1.setCell (by show w.heap.size ≤ b; omega) _, h.2.2.1.other (by omega) _ _, h.2.2.2.1.set 3 _, h.2.2.2.2.far hg (fun j hj e => by injection e; have := hn j hj; omega)⟩
theorem MouseMid.done {w : World} {q : Option Addr} {c : Nat} {l : List UInt8} {M b B : Nat} {p9 : Option Addr} {c9 : Nat} {nums : List Int} {sz fin : Int} {W : World} (h : MouseMid w q c l M b B p9 c9 nums sz fin W) (hB : w.heap.size < B) (hn : GoodPt ⟨0, true, nums, fin, sz⟩) (vs : List Value) :
    AnyPt w (.returned (ptV ⟨0, true, nums, fin, sz⟩ (.slice p9 nums.length c9))) (sets W w.heap.size 0 vs) :=
  ⟨⟨0, true, nums, fin, sz⟩, p9, c9, rfl, hn, (sets_ownI hB vs 0 _ h.2.2.2.2).lower (by omega), sets_below (Nat.le_refl _) vs 0 _ _ h.2.1⟩

set_option maxRecDepth 100000 in
set_option maxHeartbeats 2000000 in
theorem drawMouseOfParts_any (q : Option Addr) (c : Nat) (l : List UInt8) (w : World) (h : Bs w w.heap.size q l) (hl : l.length ≤ 1048576) :
    Calls Try.prog 10 #[.slice q l.length c] w (AnyPt w) := by
  have HD := Lib.hid (fun o => l1Source_any q c l (w.alloc o) (h.alloc o))
  have HQ := Lib.hid h
  have HR := Lib.hid (AtM.new w [.int .i64 0, .bool false, .slice none 0 0, .int .u8 0, .int .i64 0] 34)
  clear h
  go_enter Try.func10, Try.ntmps10
  go_wp2_with fail
  refine (HD.out _).mono ?_
  rintro e w1 ⟨rfl, hs1, hb1⟩
  rw [World.size_alloc] at hs1
  have HS1 := Lib.hid hs1
  have HB1 := Lib.hid hb1
  have HR1 := Lib.hid (HR.out.on hb1)
  clear hs1 hb1 HR
  go_wp2_with fail
  refine (l1Pick_lit _ q c 0 l _ HS1.out hl (by omega) [0, 1, 2, 3, 4, 8, 16, 32, 34, 35, 64, 63] 12 rfl (fun v => 0 ≤ v ∧ v ≤ 201) (by omega) (by omega) _ rfl _ (by simp)).mono ?_
  rintro e w2 ⟨v, rfl, ⟨hv0, hv1⟩, hs2, hg2⟩
  obtain ⟨x, rfl⟩ := Int.eq_ofNat_of_zero_le hv0
  have HS2 := Lib.hid hs2
  have HB2 := Lib.hid (HB1.out.grown hg2 HB1.out.size (by simp))
  have HR2 := Lib.hid (HR1.out.far hg2 (by simp))
  clear hs2 hg2 HS1 HB1 HR1
  go_wp2_with fail
  refine (l1Digits_any x _ (by omega)).mono ?_
  rintro e w3 ⟨rfl, hb3⟩
  have HS3 := Lib.hid (HS2.out.below hb3)
  have HB3 := Lib.hid (HB2.out.trans (hb3.mono HB2.out.size))
  have HR3 := Lib.hid (HR2.out.on hb3)
  clear hb3 HS2 HB2 HR2
  have hdx : (Lib.decDigits x).length ≤ 8 := dec_len _ (by omega)
  obtain ⟨L1, hL1⟩ : ∃ L : List UInt8, L = [60] ++ Lib.decDigits x := ⟨_, rfl⟩
  have hl1 : L1.length ≤ 9 := by rw [hL1, List.length_append]; first | omega | (simp only [List.length_cons, List.length_nil]; omega)
  have ha1 := cat_to ([60]) (Lib.decDigits x) L1 hL1 (by first | omega | (simp only [List.length_cons, List.length_nil]; omega)) (by first | omega | (simp only [List.length_cons, List.length_nil]; omega))
  have HL1 := Lib.hid hL1
  clear hL1
  obtain ⟨L2, hL2⟩ : ∃ L : List UInt8, L = L1 ++ [59] := ⟨_, rfl⟩
  have hl2 : L2.length ≤ 10 := by rw [hL2, List.length_append]; first | omega | (simp only [List.length_cons, List.length_nil]; omega)
  have ha2 := cat_to (L1) ([59]) L2 hL2 (by first | omega | (simp only [List.length_cons, List.length_nil]; omega)) (by first | omega | (simp only [List.length_cons, List.length_nil]; omega))
  have HL2 := Lib.hid hL2
  clear hL2
  go_wp2_with fail
  refine (l1Pick_lit _ q c _ l _ HS3.out hl (by omega) [0, 1, 200, 201, 5] 5 rfl (fun v => 0 ≤ v ∧ v ≤ 201) (by omega) (by omega) _ rfl _ (by simp)).mono ?_
  rintro e w4 ⟨v4, rfl, ⟨hy0, hy1⟩, hs4, hg4⟩
  obtain ⟨y, rfl⟩ := Int.eq_ofNat_of_zero_le hy0
  have HS4 := Lib.hid hs4
  have HB4 := Lib.hid (HB3.out.grown hg4 HB3.out.size (by simp))
  have HR4 := Lib.hid (HR3.out.far hg4 (by simp))
  clear hs4 hg4 HS3 HB3 HR3
  go_wp2_with fail
  refine (l1Digits_any y _ (by omega)).mono ?_
  rintro e w5 ⟨rfl, hb5⟩
  have HS5 := Lib.hid (HS4.out.below hb5)
  have HB5 := Lib.hid (HB4.out.trans (hb5.mono HB4.out.size))
  have HR5 := Lib.hid (HR4.out.on hb5)
  clear hb5 HS4 HB4 HR4 ha1 ha2
  have hdy : (Lib.decDigits y).length ≤ 8 := dec_len _ (by omega)
  obtain ⟨L3, hL3⟩ : ∃ L : List UInt8, L = L2 ++ Lib.decDigits y := ⟨_, rfl⟩
  have hl3 : L3.length ≤ 18 := by rw [hL3, List.length_append]; first | omega | (simp only [List.length_cons, List.length_nil]; omega)
  have ha3 := cat_to (L2) (Lib.decDigits y) L3 hL3 (by first | omega | (simp only [List.length_cons, List.length_nil]; omega)) (by first | omega | (simp only [List.length_cons, List.length_nil]; omega))
  have HL3 := Lib.hid hL3
  clear hL3
  obtain ⟨L4, hL4⟩ : ∃ L : List UInt8, L = L3 ++ [59] := ⟨_, rfl⟩
  have hl4 : L4.length ≤ 19 := by rw [hL4, List.length_append]; first | omega | (simp only [List.length_cons, List.length_nil]; omega)
  have ha4 := cat_to (L3) ([59]) L4 hL4 (by first | omega | (simp only [List.length_cons, List.length_nil]; omega)) (by first | omega | (simp only [List.length_cons, List.length_nil]; omega))
  have HL4 := Lib.hid hL4
  clear hL4
  go_wp2_with fail
  refine (l1Pick_lit _ q c _ l _ HS5.out hl (by omega) [0, 1, 200, 201, 5] 5 rfl (fun v => 0 ≤ v ∧ v ≤ 201) (by omega) (by omega) _ rfl _ (by simp)).mono ?_
  rintro e w6 ⟨v6, rfl, ⟨hz0, hz1⟩, hs6, hg6⟩
  obtain ⟨z, rfl⟩ := Int.eq_ofNat_of_zero_le hz0
  have HS6 := Lib.hid hs6
  have HB6 := Lib.hid (HB5.out.grown hg6 HB5.out.size (by simp))
  have HR6 := Lib.hid (HR5.out.far hg6 (by simp))
  clear hs6 hg6 HS5 HB5 HR5
  go_wp2_with fail
  refine (l1Digits_any z _ (by omega)).mono ?_
  rintro e w7 ⟨rfl, hb7⟩
  have HS7 := Lib.hid (HS6.out.below hb7)
  have HB7 := Lib.hid (HB6.out.trans (hb7.mono HB6.out.size))
  have HR7 := Lib.hid (HR6.out.on hb7)
  clear hb7 HS6 HB6 HR6 ha3 ha4
  have hdz : (Lib.decDigits z).length ≤ 8 := dec_len _ (by omega)
  obtain ⟨L5, hL5⟩ : ∃ L : List UInt8, L = L4 ++ Lib.decDigits z := ⟨_, rfl⟩
  have hl5 : L5.length ≤ 27 := by rw [hL5, List.length_append]; first | omega | (simp only [List.length_cons, List.length_nil]; omega)
  have ha5 := cat_to (L4) (Lib.decDigits z) L5 hL5 (by first | omega | (simp only [List.length_cons, List.length_nil]; omega)) (by first | omega | (simp only [List.length_cons, List.length_nil]; omega))
  have HL5 := Lib.hid hL5
  clear hL5
  obtain ⟨L6, hL6⟩ : ∃ L : List UInt8, L = L5 ++ [77] := ⟨_, rfl⟩
  have hl6 : L6.length ≤ 28 := by rw [hL6, List.length_append]; first | omega | (simp only [List.length_cons, List.length_nil]; omega)
  have ha6 := cat_to (L5) ([77]) L6 hL6 (by first | omega | (simp only [List.length_cons, List.length_nil]; omega)) (by first | omega | (simp only [List.length_cons, List.length_nil]; omega))
  have HL6 := Lib.hid hL6
  clear hL6
  have hl24 : L6.length ≤ 24 := by
    have e1 : (Lib.decDigits x).length ≤ 3 := by have := dec3 x (by omega); omega
    have e2 : (Lib.decDigits y).length ≤ 3 := by have := dec3 y (by omega); omega
    have e3 : (Lib.decDigits z).length ≤ 3 := by have := dec3 z (by omega); omega
    rw [HL6.out, HL5.out, HL4.out, HL3.out, HL2.out, HL1.out]
    simp only [List.length_append, List.length_cons, List.length_nil]
    omega
  obtain ⟨cap8, w8, hrun8, hcap8, hbs8, hb8, _⟩ := conv_bytes w7 ⟨L6.toArray⟩ (by simpa [ByteArray.size] using hl24)
  have hpt : ptOf L6 = ⟨0, true, [(x : Int), (y : Int), (z : Int)], 77, ((pb true [(x : Int), (y : Int), (z : Int)] 77).length : Int)⟩ := by
    rw [HL6.out, HL5.out, HL4.out, HL3.out, HL2.out, HL1.out]
    exact mouse_parts x y z (by omega) (by omega) (by omega)
  have hrun9 : (convert 9 22 (.string ⟨L6.toArray⟩)).run Try.prog w7 = .ok (.slice (some ⟨w7.heap.size, 0, none⟩) L6.length cap8) w8 := by simpa using hrun8
  have hbs9 : Bs w8 w8.heap.size (some ⟨w7.heap.size, 0, none⟩) L6 := by simpa using hbs8
  have hcap9 : L6.length ≤ cap8 := by simpa using hcap8
  have HP := Lib.hid (specPartsOf_any _ cap8 L6 w8 hbs9 hcap9 (by omega))
  rw [hpt] at HP
  generalize ((pb true [(x : Int), (y : Int), (z : Int)] 77).length : Int) = sz at *
  have HS8 := Lib.hid (HS7.out.below hb8)
  have HB8 := Lib.hid (HB7.out.trans (hb8.mono HB7.out.size))
  have HR8 := Lib.hid (HR7.out.on hb8)
  clear hrun8 hbs8 hcap8 hbs9 hcap9 hb8 hpt HS7 HB7 HR7 hl24 hl1 hl2 hl3 hl4 hl5 hl6 hdx hdy hdz HL1 HL2 HL3 HL4 HL5 HL6
  go_wp2_with fail
  refine HP.out.mono ?_
  rintro e w9 ⟨v9, rfl, ho9, hb9⟩
  obtain ⟨p9, c9, hv⟩ := ho9.slice
  subst hv
  have hgd : ∀ fin : Int, GoodPt ⟨0, true, [(x : Int), (y : Int), (z : Int)], fin, sz⟩ := fun fin => ⟨by simp, by simp; omega, .inl rfl⟩
  have HGD := Lib.hid hgd
  clear hgd
  dsimp only at ho9
  have B9 := below_mk w9 (.cells #[.int .i64 0, .bool true, .slice p9 [(x : Int), (y : Int), (z : Int)].length c9, .int .u8 77, .int .i64 sz] 34)
  have hs8 : w.heap.size + 1 < w8.heap.size := HS8.out.choose_spec.2.2
  have hs9 := hb9.size
  have HM9 : Hid (MouseMid w q c l 100 w9.heap.size w8.heap.size p9 c9 [(x : Int), (y : Int), (z : Int)] sz 77 (w9.alloc (.cells #[.int .i64 0, .bool true, .slice p9 [(x : Int), (y : Int), (z : Int)].length c9, .int .u8 77, .int .i64 sz] 34))) :=
    ⟨((HS8.out.below hb9).below B9).more (by omega), below_on (below_on (below_on (below_mk w _) HB8.out) hb9) B9, (HR8.out.on hb9).on B9, AtM.new w9 _ _, ho9.on B9⟩
  have HN9 : Hid (∀ j, (Value.slice p9 [(x : Int), (y : Int), (z : Int)].length c9).ownBlock = some j → j < w9.heap.size) := fun j hj => (ho9.lt j hj).2
  clear ho9 hb9 B9 HS8 HB8 HR8 HP
  unfold ptV
  generalize hnums : [(x : Int), (y : Int), (z : Int)] = nums at *
  clear hnums
  go_wp2_with fail
  generalize w9.alloc (.cells #[.int .i64 0, .bool true, .slice p9 nums.length c9, .int .u8 77, .int .i64 sz] 34) = W9 at *
  refine (l1Chance_any _ q c 100 l 3 _ HM9.out.1 hl (by omega) (by omega) (by omega)).mono ?_
  rintro e w10 ⟨b3, rfl, hs10, hg10⟩
  have HM10 := Lib.hid (HM9.out.far hs8 (by omega) hs10 hg10)
  clear hs10 hg10 HM9
  cases b3
  · go_upto_region 5 with (fail)
    refine wp_gen2 (fun W => ∃ (N : Nat) (fin : Int), N ≤ 1000 ∧ MouseMid w q c l N w9.heap.size w8.heap.size p9 c9 nums sz fin W) ⟨_, 77, by omega, HM10.out⟩ (fun W' hM => ?_)
    obtain ⟨N, fin, hN, hM⟩ := hM
    have HMM := Lib.hid hM
    clear hM HM10
    go_wp2_with fail
    refine (l1Chance_any _ q c N l 9 _ HMM.out.1 hl (by omega) (by omega) (by omega)).mono ?_
    rintro e w12 ⟨b9, rfl, hs12, hg12⟩
    have HM12 := Lib.hid (HMM.out.far hs8 (by omega) hs12 hg12)
    clear hs12 hg12 HMM
    obtain ⟨r0, r1, r2, r3, r4⟩ := HM12.out.2.2.1.cells.five
    have hfr := HM12.out.2.2.1.free
    cases b9
    · obtain ⟨a0, a1, a2, a3, a4⟩ := HM12.out.2.2.2.1.cells.five
      have HE := Lib.hid (fun vs => HM12.out.done (by omega) (HGD.out fin) vs)
      have hne : w9.heap.size ≠ w.heap.size := by omega
      go_wp2_with fail
      refine bodyPost_ret (v := ptV ⟨0, true, nums, fin, sz⟩ (.slice p9 nums.length c9)) ?_ rfl (HE.out [.int .i64 0, .bool true, .slice p9 nums.length c9, .int .u8 fin, .int .i64 sz])
      simp [results, Try.results10, ptV, go_sem, r0, r1, r2, r3, r4]
    · have HDK := Lib.hid (drawKeyOfParts_any q c l w12 (HQ.out.on HM12.out.2.1) hl)
      clear r0 r1 r2 r3 r4 hfr
      go_wp2_with fail
      refine HDK.out.mono ?_
      rintro e w13 ⟨rr, pr, cr, rfl, hgr, hor, hb13⟩
      have hres := HM12.out.2.2.1.on hb13
      obtain ⟨r0, r1, r2, r3, r4⟩ := hres.cells.five
      have hfr := hres.free
      have hlt12 : w.heap.size < w12.heap.size := HM12.out.2.2.1.cells.1
      have HE : Hid (∀ vs, AnyPt w (.returned (ptV rr (.slice pr rr.nums.length cr))) (sets w13 w.heap.size 0 vs)) := fun vs =>
        ⟨rr, pr, cr, rfl, hgr, (sets_ownI hlt12 vs 0 _ hor).lower (by omega), sets_below (Nat.le_refl _) vs 0 _ _ (HM12.out.2.1.trans (hb13.mono HM12.out.2.1.size))⟩
      clear hres hgr hor hb13
      unfold ptV
      go_wp2_with fail
      refine bodyPost_ret (v := ptV rr (.slice pr rr.nums.length cr)) ?_ rfl (HE.out [.int .i64 rr.code, .bool rr.priv, .slice pr rr.nums.length cr, .int .u8 rr.fin, .int .i64 rr.size])
      simp [results, Try.results10, ptV, go_sem, r0, r1, r2, r3, r4]
  · go_wp2_with fail
    refine (l1Pick_lit _ q c _ l _ HM10.out.1 hl (by omega) [109, 109, 120] 3 rfl (fun v => 0 ≤ v ∧ v ≤ 255) (by omega) (by omega) _ rfl _ (by simp)).mono ?_
    rintro e w11 ⟨v11, rfl, ⟨hf0, hf1⟩, hs11, hg11⟩
    have HM11 := Lib.hid (HM10.out.far hs8 (by omega) hs11 hg11)
    clear hs11 hg11 HM10
    have a3 := HM11.out.2.2.2.1.cells.get 3 rfl
    have af := HM11.out.2.2.2.1.free 3
    have hw11 : IntKind.u8.wrap v11 = v11 := IntWalk.u8_in _ ⟨by omega, by omega⟩
    go_upto_region 5 with (fail)
    refine wp_gen2 (fun W => ∃ (N : Nat) (fin : Int), N ≤ 1000 ∧ MouseMid w q c l N w9.heap.size w8.heap.size p9 c9 nums sz fin W) ⟨_, v11, by omega, HM11.out.fin (by omega) (by omega) HN9.out v11⟩ (fun W' hM => ?_)
    obtain ⟨N, fin, hN, hM⟩ := hM
    have HMM := Lib.hid hM
    clear hM HM11 a3 af hw11
    go_wp2_with fail
    refine (l1Chance_any _ q c N l 9 _ HMM.out.1 hl (by omega) (by omega) (by omega)).mono ?_
    rintro e w12 ⟨b9, rfl, hs12, hg12⟩
    have HM12 := Lib.hid (HMM.out.far hs8 (by omega) hs12 hg12)
    clear hs12 hg12 HMM
    obtain ⟨r0, r1, r2, r3, r4⟩ := HM12.out.2.2.1.cells.five
    have hfr := HM12.out.2.2.1.free
    cases b9
    · obtain ⟨a0, a1, a2, a3, a4⟩ := HM12.out.2.2.2.1.cells.five
      have HE := Lib.hid (fun vs => HM12.out.done (by omega) (HGD.out fin) vs)
      have hne : w9.heap.size ≠ w.heap.size := by omega
      go_wp2_with fail
      refine bodyPost_ret (v := ptV ⟨0, true, nums, fin, sz⟩ (.slice p9 nums.length c9)) ?_ rfl (HE.out [.int .i64 0, .bool true, .slice p9 nums.length c9, .int .u8 fin, .int .i64 sz])
      simp [results, Try.results10, ptV, go_sem, r0, r1, r2, r3, r4]
    · have HDK := Lib.hid (drawKeyOfParts_any q c l w12 (HQ.out.on HM12.out.2.1) hl)
      clear r0 r1 r2 r3 r4 hfr
      go_wp2_with fail
      refine HDK.out.mono ?_
      rintro e w13 ⟨rr, pr, cr, rfl, hgr, hor, hb13⟩
      have hres := HM12.out.2.2.1.on hb13
      obtain ⟨r0, r1, r2, r3, r4⟩ := hres.cells.five
      have hfr := hres.free
      have hlt12 : w.heap.size < w12.heap.size := HM12.out.2.2.1.cells.1
      have HE : Hid (∀ vs, AnyPt w (.returned (ptV rr (.slice pr rr.nums.length cr))) (sets w13 w.heap.size 0 vs)) := fun vs =>
        ⟨rr, pr, cr, rfl, hgr, (sets_ownI hlt12 vs 0 _ hor).lower (by omega), sets_below (Nat.le_refl _) vs 0 _ _ (HM12.out.2.1.trans (hb13.mono HM12.out.2.1.size))⟩
      clear hres hgr hor hb13
      unfold ptV
      go_wp2_with fail
      refine bodyPost_ret (v := ptV rr (.slice pr rr.nums.length cr)) ?_ rfl (HE.out [.int .i64 rr.code, .bool rr.priv, .slice pr rr.nums.length cr, .int .u8 rr.fin, .int .i64 rr.size])
      simp [results, Try.results10, ptV, go_sem, r0, r1, r2, r3, r4]

end Go.Proofs.Ytnmnklilmcpkaaa
