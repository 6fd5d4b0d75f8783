/- Joined bytes: appends into memory of the call's own, as a law's walk meets them. -/
import Derived.Test.YtjopjddhgaiddaaDoorQPutToBytesRes
import Derived.Test.YtjopjddhgaiddaaDoorQBytesToCells
namespace Go.Proofs.YtjopjddhgaiddaaDoor
open Go.RowKit

/-- what a call that answers with bytes leaves in the region -/
def SpbPost (W : World) (code : Int) (res : List UInt8) (e : Ending) (W2 : World) : Prop := ∃ p8 c8, e = .returned (brV code (.slice p8 res.length c8)) ∧ Bs W2 W2.heap.size p8 res ∧ Below W.heap.size W W2

theorem below_drew1 {B : Nat} {a b : World} (h : Below B a b) : Below B a b.drew := ⟨h.os, h.tape, h.output, h.size, h.block⟩

theorem news_of {w : World} {b off : Nat} {l : List UInt8} (h : ∀ i, i < l.length → w.cell? ⟨b, off + i, none⟩ = some (.int .u8 ((l.getD i 0).toNat : Int))) (j : Nat) (u : Value) (hj : (l.map (fun x : UInt8 => Value.int .u8 (x.toNat : Int)))[j]? = some u) :
    w.cell? ((⟨b, off, none⟩ : Addr).add j) = some u := by
  have hjl : j < l.length := by have := (List.getElem?_eq_some_iff.1 hj).1; simpa using this
  have e : (⟨b, off, none⟩ : Addr).add j = ⟨b, off + j, none⟩ := by unfold Addr.add; split <;> simp_all
  rw [e, h j hjl, ← hj]
  simp [hjl]
theorem news_bs {w : World} {B b off : Nat} {l : List UInt8} (h : Bs w B (some ⟨b, off, none⟩) l) (j : Nat) (u : Value) (hj : (l.map (fun x : UInt8 => Value.int .u8 (x.toNat : Int)))[j]? = some u) :
    w.cell? ((⟨b, off, none⟩ : Addr).add j) = some u := by
  have hjl : j < l.length := by have := (List.getElem?_eq_some_iff.1 hj).1; simpa using this
  obtain ⟨b', off', e, _, hc⟩ := h (by rintro rfl; simp at hjl)
  simp only [Option.some.injEq, Addr.mk.injEq] at e
  obtain ⟨rfl, rfl, -⟩ := e
  exact news_of hc j u hj
theorem one_cells (l : List UInt8) : ∀ u ∈ l.map (fun x : UInt8 => Value.int .u8 (x.toNat : Int)), u.oneCell' = true := by
  intro u hu
  obtain ⟨x, _, rfl⟩ := List.mem_map.1 hu
  rfl
theorem grew1 {w w2 : World} {o : Obj} {v v' : Value} {q : List UInt8} {n : Nat} (ho : Own (w.alloc o) w.heap.size v [])
    (h : w2.ownsRow w.heap.size 5 1 v' n ([] ++ q.map (fun x : UInt8 => Value.int .u8 (x.toNat : Int)))) (hg : (w.alloc o).grownBy w2 v.ownBlock) : Own w2 w.heap.size v' q ∧ Below w.heap.size w w2 := by
  have hl : n = q.length := by have := h.1; simpa using this.symm
  subst hl
  exact ⟨h, (below_mk w o).grown hg (by simp) fun j ej => (ho.lt j ej).1⟩
theorem grew2 {w wr w2 : World} {v v' : Value} {l q : List UInt8} {n : Nat} (ho : Own wr w.heap.size v l) (hb : Below w.heap.size w wr)
    (h : w2.ownsRow w.heap.size 5 1 v' n (l.map (fun x : UInt8 => Value.int .u8 (x.toNat : Int)) ++ q.map (fun x : UInt8 => Value.int .u8 (x.toNat : Int)))) (hg : wr.grownBy w2 v.ownBlock) : Own w2 w.heap.size v' (l ++ q) ∧ Below w.heap.size w w2 :=
  by
  have hn : n = l.length + q.length := by have := h.1; simpa using this.symm
  subst hn
  exact ⟨by rw [Own, List.map_append, List.length_append]; exact h, hb.grown hg hb.size fun j ej => (ho.lt j ej).1⟩
/-- an empty literal of bytes -/
theorem own_empty (w : World) : Own (w.alloc (.cells #[] 5)) w.heap.size (.slice (some ⟨w.heap.size, 0, none⟩) 0 0) [] := own_lit w [] #[] w.heap.size 0 rfl rfl rfl (by simp)
theorem own_room {w : World} {base : Nat} {v : Value} {l : List UInt8} (h : Own w base v l) (h0 : l ≠ []) : ∃ g cap, v = .slice (some ⟨g, 0, none⟩) l.length cap ∧ l.length ≤ cap := by
  rcases h.2 with ⟨e, hn⟩ | ⟨g, cap, cur, e, hb, hh, hcap, _⟩
  · exact absurd (List.eq_nil_of_length_eq_zero hn) h0
  · exact ⟨g, cap, e, hcap⟩

end Go.Proofs.YtjopjddhgaiddaaDoor
