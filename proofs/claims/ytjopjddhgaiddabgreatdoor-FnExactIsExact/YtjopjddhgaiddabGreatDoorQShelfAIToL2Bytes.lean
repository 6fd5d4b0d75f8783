/- The numbers of the library functions that the shelf names LaysM.n176, at this dump; each body is the one that the contract was proved of. -/
import Derived.Shelf.Strconv.AppendIntPublic10
import Derived.Test.YtjopjddhgaiddabGreatDoorProg
import Derived.Test.YtjopjddhgaiddabGreatDoorQDigitsToPieces
import Derived.Test.YtjopjddhgaiddabGreatDoorQPiecesInToPartsSpec
import Derived.Test.YtjopjddhgaiddabGreatDoorQPutToBytesRes
import Derived.Lib.AppendStr
namespace Go.Proofs.YtjopjddhgaiddabGreatDoor
open Go.Shelf
def Tryz.laysAI_ren : Go.Shelf.Ren := ⟨fun | 176 => 123 | 249 => 134 | 288 => 146 | 283 => 155 | 284 => 156 | 285 => 157 | 286 => 158 | 129 => 166 | 317 => 165 | 318 => 167 | 319 => 168 | 320 => 169 | 337 => 176 | 338 => 177 | n => n, fun | 37 => 24 | 2 => 2 | 3 => 3 | 53 => 147 | 4 => 4 | 9 => 9 | 171 => 155 | 0 => 0 | 173 => 158 | 212 => 172 | 51 => 136 | 5 => 5 | 20 => 20 | 213 => 173 | 46 => 146 | 232 => 186 | 233 => 187 | n => n, fun | 17 => 2 | 18 => 3 | 19 => 4 | n => n⟩
theorem Tryz.laysAI : Go.Proofs.LaysM.n176 Tryz.prog Tryz.laysAI_ren := {
  mixed := by kernel_rfl
  f129 := Tryz.func166.trans (congrArg some (by kernel_rfl))
  f176 := Tryz.func123.trans (congrArg some (by kernel_rfl))
  f249 := Tryz.func134.trans (congrArg some (by kernel_rfl))
  f283 := Tryz.func155.trans (congrArg some (by kernel_rfl))
  f284 := Tryz.func156.trans (congrArg some (by kernel_rfl))
  f285 := Tryz.func157.trans (congrArg some (by kernel_rfl))
  f286 := Tryz.func158.trans (congrArg some (by kernel_rfl))
  f288 := Tryz.func146.trans (congrArg some (by kernel_rfl))
  f317 := Tryz.func165.trans (congrArg some (by kernel_rfl))
  f318 := Tryz.func167.trans (congrArg some (by kernel_rfl))
  f319 := Tryz.func168.trans (congrArg some (by kernel_rfl))
  f320 := Tryz.func169.trans (congrArg some (by kernel_rfl))
  f337 := Tryz.func176.trans (congrArg some (by kernel_rfl))
  f338 := Tryz.func177.trans (congrArg some (by kernel_rfl))
  t0 := Tryz.underlying0
  a0 := Tryz.isAgg0
  z0 := Tryz.sizeOf0
  v0 := Tryz.zeroValue0
  t2 := Tryz.underlying2
  a2 := Tryz.isAgg2
  z2 := Tryz.sizeOf2
  v2 := Tryz.zeroValue2
  t3 := Tryz.underlying3
  a3 := Tryz.isAgg3
  z3 := Tryz.sizeOf3
  v3 := Tryz.zeroValue3
  t4 := Tryz.underlying4
  a4 := Tryz.isAgg4
  z4 := Tryz.sizeOf4
  v4 := Tryz.zeroValue4
  t5 := Tryz.underlying5
  a5 := Tryz.isAgg5
  z5 := Tryz.sizeOf5
  v5 := Tryz.zeroValue5
  t9 := Tryz.underlying9
  a9 := Tryz.isAgg9
  z9 := Tryz.sizeOf9
  v9 := Tryz.zeroValue9
  t20 := Tryz.underlying20
  a20 := Tryz.isAgg20
  z20 := Tryz.sizeOf20
  v20 := Tryz.zeroValue20
  t37 := Tryz.underlying24
  a37 := Tryz.isAgg24
  z37 := Tryz.sizeOf24
  v37 := Tryz.zeroValue24
  t46 := Tryz.underlying146
  a46 := Tryz.isAgg146
  z46 := Tryz.sizeOf146
  v46 := Tryz.zeroValue146
  t51 := Tryz.underlying136
  a51 := Tryz.isAgg136
  z51 := Tryz.sizeOf136
  v51 := Tryz.zeroValue136
  t53 := Tryz.underlying147
  a53 := Tryz.isAgg147
  z53 := Tryz.sizeOf147
  v53 := Tryz.zeroValue147
  t171 := Tryz.underlying155
  a171 := Tryz.isAgg155
  z171 := Tryz.sizeOf155
  v171 := Tryz.zeroValue155
  t173 := Tryz.underlying158
  a173 := Tryz.isAgg158
  z173 := Tryz.sizeOf158
  v173 := Tryz.zeroValue158
  t212 := Tryz.underlying172
  a212 := Tryz.isAgg172
  z212 := Tryz.sizeOf172
  v212 := Tryz.zeroValue172
  t213 := Tryz.underlying173
  a213 := Tryz.isAgg173
  z213 := Tryz.sizeOf173
  t232 := Tryz.underlying186
  a232 := Tryz.isAgg186
  z232 := Tryz.sizeOf186
  v232 := Tryz.zeroValue186
  t233 := Tryz.underlying187
  a233 := Tryz.isAgg187
  z233 := Tryz.sizeOf187
  v233 := Tryz.zeroValue187
  g17 := by kernel_rfl
  g18 := by kernel_rfl
  g19 := by kernel_rfl
  i0 := by kernel_rfl
  i2 := by kernel_rfl
  i3 := by kernel_rfl
  i4 := by kernel_rfl
  i5 := by kernel_rfl
  i9 := by kernel_rfl
  i20 := by kernel_rfl
  i37 := by kernel_rfl
  i46 := by kernel_rfl
  i51 := by kernel_rfl
  i53 := by kernel_rfl
  i171 := by kernel_rfl
  i173 := by kernel_rfl
  i212 := by kernel_rfl
  i232 := by kernel_rfl
  i233 := by kernel_rfl
  m17 := by kernel_rfl
  m18 := by kernel_rfl
  m19 := by kernel_rfl }
end Go.Proofs.YtjopjddhgaiddabGreatDoor

/- The bytes of parts: the plain facts, and the contract of the model's l2Bytes. -/
namespace Go.Proofs.YtjopjddhgaiddabGreatDoor
open Go.RowKit

/-- numbers in decimal, semicolons between them; the list lies reversed -/
def jnR : List Int → List UInt8
  | [] => []
  | n :: r => jnR r ++ ((if r = [] then [] else [59]) ++ Lib.decDigits n.toNat)
def jn (l : List Int) : List UInt8 := jnR l.reverse
theorem jn_snoc (l : List Int) (n : Int) : jn (l ++ [n]) = jn l ++ ((if l = [] then [] else [59]) ++ Lib.decDigits n.toNat) := by
  simp [jn, jnR]
theorem jn_take (l : List Int) (k : Nat) (h : k < l.length) : jn (l.take (k + 1)) = jn (l.take k) ++ ((if k = 0 then [] else [59]) ++ Lib.decDigits (l.getD k 0).toNat) := by
  rw [List.take_succ_eq_append_getElem h, jn_snoc, List.getD_eq_getElem?_getD, List.getElem?_eq_getElem h]
  have : (l.take k = []) ↔ k = 0 := by
    rw [← List.length_eq_zero_iff, List.length_take]
    omega
  by_cases hk : k = 0
  · simp [hk]
  · rw [if_neg hk, if_neg (fun e => hk (this.1 e))]
    rfl
def mark (priv : Bool) : List UInt8 := if priv = true then [60] else []
/-- the bytes of parts -/
def pb (priv : Bool) (nums : List Int) (fin : UInt8) : List UInt8 := (mark priv ++ jn nums) ++ [fin]
/-- every number is in its range -/
def inNum (l : List Int) : Bool := l.all fun n => inR n 0 9999999

def bv (x : UInt8) : Value := .int .u8 (x.toNat : Int)

theorem grewB {w wr w2 : World} {v v' : Value} {l q : List UInt8} {n : Nat} (ho : Own wr w.heap.size v l) (hb : Below w.heap.size w wr) (hn : n = l.length + q.length)
    (h : w2.ownsRow w.heap.size 5 1 v' n (l.map (fun x : UInt8 => Value.int .u8 (x.toNat : Int)) ++ q.map (fun x : UInt8 => Value.int .u8 (x.toNat : Int)))) (hg : wr.grownBy w2 v.ownBlock) : Own w2 w.heap.size v' (l ++ q) ∧ Below w.heap.size w w2 := by
  subst hn
  refine ⟨by rw [Own, List.map_append, List.length_append]; exact h, hb.grown hg hb.size fun j ej => (ho.lt j ej).1⟩

theorem grewA {w wr w2 : World} {v v' : Value} {l : List UInt8} {x : UInt8} {n : Nat} {o : Obj} {u : Int} (hu : u = (x.toNat : Int)) (ho : Own wr w.heap.size v l) (hb : Below w.heap.size w wr) (hn : n = l.length + 1)
    (h : w2.ownsRow w.heap.size 5 1 v' n (l.map (fun x : UInt8 => Value.int .u8 (x.toNat : Int)) ++ [.int .u8 u])) (hg : (wr.alloc o).grownBy w2 v.ownBlock) : Own w2 w.heap.size v' (l ++ [x]) ∧ Below w.heap.size w w2 :=
  grewB (wr := wr.alloc o) (ho.on (below_mk _ _)) (hb.alloc hb.size o) (by simpa using hn) (by subst hu; simpa using h) hg

theorem below_on' {w w1 w2 : World} (h : Below w.heap.size w w1) (k : Below w1.heap.size w1 w2) : Below w.heap.size w w2 := h.trans (k.mono h.size)
theorem cell_one_new1 (w : World) (o : Obj) (x : Value) (t : TypeId) : ∀ j u, [x][j]? = some u → ((w.alloc o).alloc (.cells #[x] t)).cell? ((⟨w.heap.size + 1, 0, none⟩ : Addr).add j) = some u := by
  have := cell_one_new (w.alloc o) x t
  rwa [World.size_alloc] at this

/-- what the loop of l2Bytes keeps -/
def LbRel (w : World) (priv : Bool) (nums : List Int) (v i : Value) (wr : World) : Prop :=
  ∃ k : Nat, k ≤ nums.length ∧ i = .int .i64 k ∧ Own wr w.heap.size v (mark priv ++ jn (nums.take k)) ∧ Below w.heap.size w wr

theorem jn_len (l : List Int) (h : inNum l = true) : (jn l).length ≤ 9 * l.length := by
  unfold jn
  have : ∀ r : List Int, (∀ x ∈ r, inR x 0 9999999 = true) → (jnR r).length ≤ 9 * r.length := by
    intro r
    induction r with
    | nil => intro _; simp [jnR]
    | cons n r ih =>
      intro hr
      have h1 := ih (fun x hx => hr x (List.mem_cons_of_mem _ hx))
      have h2 : inR n 0 9999999 = true := hr n (by simp)
      have h3 := dec_len n.toNat (by simp [inR] at h2; omega)
      simp only [jnR, List.length_append, List.length_cons]
      have h4 : (if r = [] then ([] : List UInt8) else [59]).length ≤ 1 := by split <;> simp
      omega
  have h1 := this l.reverse (fun x hx => by simp only [inNum, List.all_eq_true] at h; exact h x (by simpa using hx))
  simpa using h1

theorem inNum_at {l : List Int} (h : inNum l = true) (k : Nat) (hk : k < l.length) : 0 ≤ l.getD k 0 ∧ l.getD k 0 ≤ 9999999 := by
  simp only [inNum, List.all_eq_true] at h
  have := h l[k] (List.getElem_mem hk)
  rw [List.getD_eq_getElem?_getD, List.getElem?_eq_getElem hk]
  simpa [inR] using this
theorem inNum_take {l : List Int} (h : inNum l = true) (k : Nat) : inNum (l.take k) = true := by
  simp only [inNum, List.all_eq_true] at h ⊢
  exact fun x hx => h x (List.mem_of_mem_take hx)

theorem own_lit0 (w : World) : Own (w.alloc (.cells #[] 5)) w.heap.size (.slice (some ⟨w.heap.size, 0, none⟩) 0 0) [] := own_lit w [] #[] w.heap.size 0 rfl rfl rfl (by simp)

set_option maxRecDepth 100000 in
set_option maxHeartbeats 2000000 in
theorem l2Bytes_any (priv : Bool) (p : Option Addr) (c : Nat) (nums : List Int) (fin : UInt8) (w : World) (h : Is w w.heap.size p nums) (hin : inNum nums = true) (hl : nums.length ≤ 4) :
    Calls Tryz.prog 77 #[.bool priv, .slice p nums.length c, .int .u8 (fin.toNat : Int)] w (NewOwn w (pb priv nums fin)) := by
  obtain ⟨i0, hi, hz0, hz1, hz2⟩ := info_parts Tryz.info_u8
  have H := Lib.hid h
  have HIN := Lib.hid hin
  clear h hin
  cases priv with
  | false =>
    have HO := Lib.hid (own_lit0 w)
    go_enter Tryz.func77, Tryz.ntmps77
    go_wp2_with fail
    go_loopw [7, 8, 16] (fun v _ i wr => LbRel w false nums v i wr) (fun _ _ i _ => nums.length - (intOf i).toNat)
    case atStart => exact ⟨0, by omega, rfl, HO.out, below_mk _ _⟩
    case round =>
      clear HO
      obtain ⟨k, hk, rfl, ho, hb⟩ := hrel
      have hjl := jn_len (nums.take k) (inNum_take HIN.out k)
      have hLl : (mark false ++ jn (nums.take k)).length ≤ 50 := by simp [mark] at hjl ⊢; omega
      have HJT := Lib.hid (fun h => jn_take nums k h)
      have HNX : Hid (∀ (L : List UInt8) v' w', k < nums.length → L = mark false ++ jn (nums.take (k + 1)) → Own w' w.heap.size v' L → Below w.heap.size w w' → LbRel w false nums v' (.int .i64 ((k : Int) + 1)) w') := fun L v' w' h1 h2 h3 h4 => ⟨k + 1, by omega, by go_num, by rw [← h2]; exact h3, h4⟩
      generalize hL : mark false ++ jn (nums.take k) = L at *
      have HL := Lib.hid hL
      have HO := Lib.hid ho
      have HB := Lib.hid hb
      clear hL ho hb hjl
      by_cases hlt : k < nums.length
      · obtain ⟨b, off, rfl, hbb, hc⟩ := H.out (by intro e; simp [e] at hlt)
        obtain ⟨n, hn, hn9⟩ : ∃ n : Nat, nums.getD k 0 = (n : Int) ∧ n ≤ 9999999 := by
          have := inNum_at HIN.out k hlt
          exact ⟨(nums.getD k 0).toNat, by omega, by omega⟩
        have hc0 : wr.cell? ⟨b, off + k, none⟩ = some (.int .i64 (n : Int)) := by rw [HB.out.cell (p := ⟨b, off + k, none⟩) hbb, hc k hlt, hn]
        have HCK : Hid (w.cell? ⟨b, off + k, none⟩ = some (.int .i64 (n : Int))) := by have := hc k hlt; rw [hn] at this; exact this
        have HN := Lib.hid hn
        have hdl := dec_len n (by omega)
        clear hc hn
        by_cases hk0 : k = 0
        · subst hk0
          rw [Nat.add_zero] at hc0
          have HCUR := Lib.hid (And.intro HO.out HB.out)
          go_wp2_with (first | (go_at_call 112; refine (l1Digits_any n _ (by omega)).mono ?_; rintro e w1 ⟨rfl, hb1⟩; have HS1 := Lib.hid (HCUR.out.1.on hb1); have HB1 := Lib.hid (below_on' HCUR.out.2 hb1)) | (at_builtin; refine Lib.wpList_append_own_string _ rfl _ _ 24 9 rfl w.heap.size 5 i0 Tryz.underlying24 Tryz.underlying9 hi hz0 hz1 hz2 _ _ _ rfl HS1.out _ rfl (by unfold maxLen; simp [ByteArray.size]; omega) (by simp [ByteArray.size]; omega) HB1.out.size ?_; intro v3 w3 hown3 hgrow3 _))
          have hr := grewB (q := Lib.decDigits n) HS1.out HB1.out (by simp [ByteArray.size]) hown3 hgrow3
          exact ⟨HNX.out _ _ _ hlt (by rw [HJT.out hlt, ← HL.out, HN.out]; simp) hr.1 hr.2, by simp [intOf]; omega⟩
        · have hkp : (0 : Int) < (k : Int) := by omega
          go_wp2_with (first | (at_builtin; refine wpList_append_own _ rfl _ _ 24 rfl w.heap.size 5 i0 (.int .u8 0) 1 1 Tryz.underlying24 hi hz0 hz1 hz2 rfl (by decide) _ _ _ rfl (HO.out.alloc _) ⟨wr.heap.size, 0, none⟩ 1 1 [.int .u8 59] rfl rfl (cell_one_new _ _ _) (by simp [Value.oneCell']) (by unfold maxLen; omega) (by omega) (by have := HB.out.size; simp; omega) ?_; intro v1 wA hownA hgrowA _; have HCUR := Lib.hid (grewA (x := 59) rfl HO.out HB.out rfl hownA hgrowA); have hcA := (HCUR.out.2.cell (p := ⟨b, off + k, none⟩) hbb).trans HCK.out) | (go_at_call 112; refine (l1Digits_any n _ (by omega)).mono ?_; rintro e w1 ⟨rfl, hb1⟩; have HS1 := Lib.hid (HCUR.out.1.on hb1); have HB1 := Lib.hid (below_on' HCUR.out.2 hb1)) | (at_builtin; refine Lib.wpList_append_own_string _ rfl _ _ 24 9 rfl w.heap.size 5 i0 Tryz.underlying24 Tryz.underlying9 hi hz0 hz1 hz2 _ _ _ rfl HS1.out _ rfl (by unfold maxLen; simp [ByteArray.size]; omega) (by simp [ByteArray.size]; omega) HB1.out.size ?_; intro v3 w3 hown3 hgrow3 _))
          have hr := grewB (q := Lib.decDigits n) HS1.out HB1.out (by simp [ByteArray.size]) hown3 hgrow3
          exact ⟨HNX.out _ _ _ hlt (by rw [HJT.out hlt, ← HL.out, HN.out, if_neg hk0]; simp) hr.1 hr.2, by simp [intOf]; omega⟩
      · obtain rfl : k = nums.length := by omega
        have HTT := Lib.hid (show nums.take nums.length = nums from List.take_length)
        go_wp2_with (at_builtin; refine wpList_append_own _ rfl _ _ 24 rfl w.heap.size 5 i0 (.int .u8 0) 1 1 Tryz.underlying24 hi hz0 hz1 hz2 rfl (by decide) _ _ _ rfl (HO.out.alloc _) ⟨wr.heap.size, 0, none⟩ 1 1 [.int .u8 (fin.toNat : Int)] rfl rfl (cell_one_new _ _ _) (by simp [Value.oneCell']) (by unfold maxLen; omega) (by omega) (by have := HB.out.size; simp; omega) ?_; intro v1 wA hownA hgrowA _; have HCUR := Lib.hid (grewA (x := fin) rfl HO.out HB.out rfl hownA hgrowA))
        go_ret
        exact ⟨_, rfl, by rw [pb]; have := HCUR.out.1; rw [← HL.out, HTT.out] at this; exact this, HCUR.out.2⟩
  | true =>
    have HO := Lib.hid (own_lit0 w)
    have HB := Lib.hid (below_mk w (.cells #[] 5))
    go_enter Tryz.func77, Tryz.ntmps77
    go_wp2_with (at_builtin; refine wpList_append_own _ rfl _ _ 24 rfl w.heap.size 5 i0 (.int .u8 0) 1 1 Tryz.underlying24 hi hz0 hz1 hz2 rfl (by decide) _ _ _ rfl (HO.out.alloc _) ⟨w.heap.size + 1, 0, none⟩ 1 1 [.int .u8 60] rfl rfl (cell_one_new1 _ _ _ _) (by simp [Value.oneCell']) (by unfold maxLen; simp) (by simp) (by have := HB.out.size; simp; omega) ?_; intro v1 wA hownA hgrowA _; have HCUR := Lib.hid (grewA (x := 60) rfl HO.out HB.out rfl hownA hgrowA))
    go_loopw [7, 8, 16] (fun v _ i wr => LbRel w true nums v i wr) (fun _ _ i _ => nums.length - (intOf i).toNat)
    case atStart => exact ⟨0, by omega, rfl, HCUR.out.1, HCUR.out.2⟩
    case round =>
      clear HO HB HCUR
      obtain ⟨k, hk, rfl, ho, hb⟩ := hrel
      have hjl := jn_len (nums.take k) (inNum_take HIN.out k)
      have hLl : (mark true ++ jn (nums.take k)).length ≤ 50 := by simp [mark] at hjl ⊢; omega
      have HJT := Lib.hid (fun h => jn_take nums k h)
      have HNX : Hid (∀ (L : List UInt8) v' w', k < nums.length → L = mark true ++ jn (nums.take (k + 1)) → Own w' w.heap.size v' L → Below w.heap.size w w' → LbRel w true nums v' (.int .i64 ((k : Int) + 1)) w') := fun L v' w' h1 h2 h3 h4 => ⟨k + 1, by omega, by go_num, by rw [← h2]; exact h3, h4⟩
      generalize hL : mark true ++ jn (nums.take k) = L at *
      have HL := Lib.hid hL
      have HO := Lib.hid ho
      have HB := Lib.hid hb
      clear hL ho hb hjl
      by_cases hlt : k < nums.length
      · obtain ⟨b, off, rfl, hbb, hc⟩ := H.out (by intro e; simp [e] at hlt)
        obtain ⟨n, hn, hn9⟩ : ∃ n : Nat, nums.getD k 0 = (n : Int) ∧ n ≤ 9999999 := by
          have := inNum_at HIN.out k hlt
          exact ⟨(nums.getD k 0).toNat, by omega, by omega⟩
        have hc0 : wr.cell? ⟨b, off + k, none⟩ = some (.int .i64 (n : Int)) := by rw [HB.out.cell (p := ⟨b, off + k, none⟩) hbb, hc k hlt, hn]
        have HCK : Hid (w.cell? ⟨b, off + k, none⟩ = some (.int .i64 (n : Int))) := by have := hc k hlt; rw [hn] at this; exact this
        have HN := Lib.hid hn
        have hdl := dec_len n (by omega)
        clear hc hn
        by_cases hk0 : k = 0
        · subst hk0
          rw [Nat.add_zero] at hc0
          have HCUR := Lib.hid (And.intro HO.out HB.out)
          go_wp2_with (first | (go_at_call 112; refine (l1Digits_any n _ (by omega)).mono ?_; rintro e w1 ⟨rfl, hb1⟩; have HS1 := Lib.hid (HCUR.out.1.on hb1); have HB1 := Lib.hid (below_on' HCUR.out.2 hb1)) | (at_builtin; refine Lib.wpList_append_own_string _ rfl _ _ 24 9 rfl w.heap.size 5 i0 Tryz.underlying24 Tryz.underlying9 hi hz0 hz1 hz2 _ _ _ rfl HS1.out _ rfl (by unfold maxLen; simp [ByteArray.size]; omega) (by simp [ByteArray.size]; omega) HB1.out.size ?_; intro v3 w3 hown3 hgrow3 _))
          have hr := grewB (q := Lib.decDigits n) HS1.out HB1.out (by simp [ByteArray.size]) hown3 hgrow3
          exact ⟨HNX.out _ _ _ hlt (by rw [HJT.out hlt, ← HL.out, HN.out]; simp) hr.1 hr.2, by simp [intOf]; omega⟩
        · have hkp : (0 : Int) < (k : Int) := by omega
          go_wp2_with (first | (at_builtin; refine wpList_append_own _ rfl _ _ 24 rfl w.heap.size 5 i0 (.int .u8 0) 1 1 Tryz.underlying24 hi hz0 hz1 hz2 rfl (by decide) _ _ _ rfl (HO.out.alloc _) ⟨wr.heap.size, 0, none⟩ 1 1 [.int .u8 59] rfl rfl (cell_one_new _ _ _) (by simp [Value.oneCell']) (by unfold maxLen; omega) (by omega) (by have := HB.out.size; simp; omega) ?_; intro v1 wA hownA hgrowA _; have HCUR := Lib.hid (grewA (x := 59) rfl HO.out HB.out rfl hownA hgrowA); have hcA := (HCUR.out.2.cell (p := ⟨b, off + k, none⟩) hbb).trans HCK.out) | (go_at_call 112; refine (l1Digits_any n _ (by omega)).mono ?_; rintro e w1 ⟨rfl, hb1⟩; have HS1 := Lib.hid (HCUR.out.1.on hb1); have HB1 := Lib.hid (below_on' HCUR.out.2 hb1)) | (at_builtin; refine Lib.wpList_append_own_string _ rfl _ _ 24 9 rfl w.heap.size 5 i0 Tryz.underlying24 Tryz.underlying9 hi hz0 hz1 hz2 _ _ _ rfl HS1.out _ rfl (by unfold maxLen; simp [ByteArray.size]; omega) (by simp [ByteArray.size]; omega) HB1.out.size ?_; intro v3 w3 hown3 hgrow3 _))
          have hr := grewB (q := Lib.decDigits n) HS1.out HB1.out (by simp [ByteArray.size]) hown3 hgrow3
          exact ⟨HNX.out _ _ _ hlt (by rw [HJT.out hlt, ← HL.out, HN.out, if_neg hk0]; simp) hr.1 hr.2, by simp [intOf]; omega⟩
      · obtain rfl : k = nums.length := by omega
        have HTT := Lib.hid (show nums.take nums.length = nums from List.take_length)
        go_wp2_with (at_builtin; refine wpList_append_own _ rfl _ _ 24 rfl w.heap.size 5 i0 (.int .u8 0) 1 1 Tryz.underlying24 hi hz0 hz1 hz2 rfl (by decide) _ _ _ rfl (HO.out.alloc _) ⟨wr.heap.size, 0, none⟩ 1 1 [.int .u8 (fin.toNat : Int)] rfl rfl (cell_one_new _ _ _) (by simp [Value.oneCell']) (by unfold maxLen; omega) (by omega) (by have := HB.out.size; simp; omega) ?_; intro v1 wA hownA hgrowA _; have HCUR := Lib.hid (grewA (x := fin) rfl HO.out HB.out rfl hownA hgrowA))
        go_ret
        exact ⟨_, rfl, by rw [pb]; have := HCUR.out.1; rw [← HL.out, HTT.out] at this; exact this, HCUR.out.2⟩

end Go.Proofs.YtjopjddhgaiddabGreatDoor
