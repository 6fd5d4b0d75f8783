/- The bytes of parts: the plain facts, and the contract of the model's l2Bytes. -/
import Derived.Test.YtnmnklilmcpkaaaQDigits
import Derived.Test.YtnmnklilmcpkaaaQPiecesInToPartsImpl
import Derived.Test.YtnmnklilmcpkaaaQPutToBytesRes
import Derived.Lib.AppendStr
namespace Go.Proofs.Ytnmnklilmcpkaaa
open Go.RowKit

/-- numbers in decimal, semicolons between them; the list lies reversed -/
def jnR : List Int → List UInt8
  | [] => []
  | n :: r => jnR r ++ ((if r = [] then [] else [59]) ++ Lib.decDigits n.toNat)
def jn (l : List Int) : List UInt8 := jnR l.reverse
theorem jn_snoc (l : List Int) (n : Int) : jn (l ++ [n]) = jn l ++ ((if l = [] then [] else [59]) ++ Lib.decDigits n.toNat) := by
  simp [jn, jnR]
theorem jn_take (l : List Int) (k : Nat) (h : k < l.length) : jn (l.take (k + 1)) = jn (l.take k) ++ ((if k = 0 then [] else [59]) ++ Lib.decDigits (l.getD k 0).toNat) := by
  rw [List.take_succ_eq_append_getElem h, jn_snoc, List.getD_eq_getElem?_getD, List.getElem?_eq_getElem h]
  have : (l.take k = []) ↔ k = 0 := by
    rw [← List.length_eq_zero_iff, List.length_take]
    omega
  by_cases hk : k = 0
  · simp [hk]
  · rw [if_neg hk, if_neg (fun e => hk (this.1 e))]
    rfl
def mark (priv : Bool) : List UInt8 := if priv = true then [60] else []
/-- the bytes of parts -/
def pb (priv : Bool) (nums : List Int) (fin : UInt8) : List UInt8 := (mark priv ++ jn nums) ++ [fin]
/-- every number is in its range -/
def inNum (l : List Int) : Bool := l.all fun n => inR n 0 9999999

def bv (x : UInt8) : Value := .int .u8 (x.toNat : Int)

theorem grewB {w wr w2 : World} {v v' : Value} {l q : List UInt8} {n : Nat} (ho : Own wr w.heap.size v l) (hb : Below w.heap.size w wr) (hn : n = l.length + q.length)
    (h : w2.ownsRow w.heap.size 5 1 v' n (l.map (fun x : UInt8 => Value.int .u8 (x.toNat : Int)) ++ q.map (fun x : UInt8 => Value.int .u8 (x.toNat : Int)))) (hg : wr.grownBy w2 v.ownBlock) : Own w2 w.heap.size v' (l ++ q) ∧ Below w.heap.size w w2 := by
  subst hn
  refine ⟨by rw [Own, List.map_append, List.length_append]; exact h, hb.grown hg hb.size fun j ej => (ho.lt j ej).1⟩

theorem grewA {w wr w2 : World} {v v' : Value} {l : List UInt8} {x : UInt8} {n : Nat} {o : Obj} {u : Int} (hu : u = (x.toNat : Int)) (ho : Own wr w.heap.size v l) (hb : Below w.heap.size w wr) (hn : n = l.length + 1)
    (h : w2.ownsRow w.heap.size 5 1 v' n (l.map (fun x : UInt8 => Value.int .u8 (x.toNat : Int)) ++ [.int .u8 u])) (hg : (wr.alloc o).grownBy w2 v.ownBlock) : Own w2 w.heap.size v' (l ++ [x]) ∧ Below w.heap.size w w2 :=
  grewB (wr := wr.alloc o) (ho.on (below_mk _ _)) (hb.alloc hb.size o) (by simpa using hn) (by subst hu; simpa using h) hg

theorem below_on' {w w1 w2 : World} (h : Below w.heap.size w w1) (k : Below w1.heap.size w1 w2) : Below w.heap.size w w2 := h.trans (k.mono h.size)
theorem cell_one_new1 (w : World) (o : Obj) (x : Value) (t : TypeId) : ∀ j u, [x][j]? = some u → ((w.alloc o).alloc (.cells #[x] t)).cell? ((⟨w.heap.size + 1, 0, none⟩ : Addr).add j) = some u := by
  have := cell_one_new (w.alloc o) x t
  rwa [World.size_alloc] at this

/-- what the loop of l2Bytes keeps -/
def LbRel (w : World) (priv : Bool) (nums : List Int) (v i : Value) (wr : World) : Prop :=
  ∃ k : Nat, k ≤ nums.length ∧ i = .int .i64 k ∧ Own wr w.heap.size v (mark priv ++ jn (nums.take k)) ∧ Below w.heap.size w wr

theorem jn_len (l : List Int) (h : inNum l = true) : (jn l).length ≤ 9 * l.length := by
  unfold jn
  have : ∀ r : List Int, (∀ x ∈ r, inR x 0 9999999 = true) → (jnR r).length ≤ 9 * r.length := by
    intro r
    induction r with
    | nil => intro _; simp [jnR]
    | cons n r ih =>
      intro hr
      have h1 := ih (fun x hx => hr x (List.mem_cons_of_mem _ hx))
      have h2 : inR n 0 9999999 = true := hr n (by simp)
      have h3 := dec_len n.toNat (by simp [inR] at h2; omega)
      simp only [jnR, List.length_append, List.length_cons]
      have h4 : (if r = [] then ([] : List UInt8) else [59]).length ≤ 1 := by split <;> simp
      omega
  have h1 := this l.reverse (fun x hx => by simp only [inNum, List.all_eq_true] at h; exact h x (by simpa using hx))
  simpa using h1

theorem inNum_at {l : List Int} (h : inNum l = true) (k : Nat) (hk : k < l.length) : 0 ≤ l.getD k 0 ∧ l.getD k 0 ≤ 9999999 := by
  simp only [inNum, List.all_eq_true] at h
  have := h l[k] (List.getElem_mem hk)
  rw [List.getD_eq_getElem?_getD, List.getElem?_eq_getElem hk]
  simpa [inR] using this
theorem inNum_take {l : List Int} (h : inNum l = true) (k : Nat) : inNum (l.take k) = true := by
  simp only [inNum, List.all_eq_true] at h ⊢
  exact fun x hx => h x (List.mem_of_mem_take hx)

theorem own_lit0 (w : World) : Own (w.alloc (.cells #[] 5)) w.heap.size (.slice (some ⟨w.heap.size, 0, none⟩) 0 0) [] := own_lit w [] #[] w.heap.size 0 rfl rfl rfl (by simp)



end Go.Proofs.Ytnmnklilmcpkaaa
