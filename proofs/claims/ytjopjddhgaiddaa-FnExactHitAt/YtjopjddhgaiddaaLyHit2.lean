/- HitAt of the program and of the model. -/
import Derived.Test.YtjopjddhgaiddaaLyHit
namespace Go.Proofs.Ytjopjddhgaiddaa
open Go.RowKit
set_option linter.unusedVariables false

/-- the layout boxed, and the cells of the answer -/
structure HitSt (w : World) (x : Ly) (p : Option Addr) (c : Nat) (W : World) : Prop where
  ly : LyAt W w.heap.size x p c
  res : AtM W (w.heap.size + 1) [.int .i64 0, .int .i64 0]
  below : Below w.heap.size w W
theorem HitSt.on {w W W' : World} {x : Ly} {p : Option Addr} {c : Nat} (h : HitSt w x p c W) (hb : Below W.heap.size W W') : HitSt w x p c W' := ⟨h.ly.on hb, h.res.on hb, below_on h.below hb⟩
theorem HitSt.start (w : World) (x : Ly) (p : Option Addr) (c : Nat) (t t' : TypeId) (h : Qs w w.heap.size p x.nodes) : HitSt w x p c ((w.alloc (.cells #[.int .i64 x.wide, .int .i64 x.high, .slice p x.nodes.length c] t)).alloc (.cells #[.int .i64 0, .int .i64 0] t')) := by
  have hX := (LyAt.new w x p c t h).on (below_mk _ (.cells #[.int .i64 0, .int .i64 0] t'))
  have hR := AtM.new (w.alloc (.cells (lyL x p c).toArray t)) [.int .i64 0, .int .i64 0] t'
  rw [World.size_alloc] at hR
  exact ⟨hX, hR, below_on (below_mk _ _) (below_mk _ _)⟩
theorem root_in {x : Ly} {R : List Q} {k : Nat} {c d : Int} (h : Inv x.nodes x.wide x.high k R) (h1 : inR c 0 (x.wide - 1) = true) (h2 : inR d 0 (x.high - 1) = true) : inQ (nth R 0) c d = true := by
  rw [inQ_geo h.root]
  unfold inQ whole
  simp only [Int.zero_add]
  rw [h1, h2]
  rfl

set_option maxRecDepth 100000 in
set_option maxHeartbeats 4000000 in
theorem implHitAt_any (x : Ly) (cc d : Int) (p : Option Addr) (c : Nat) (w : World) (h : Qs w w.heap.size p x.nodes) (hl : x.nodes.length ≤ 1048576) :
    Calls Try.prog 26 #[.agg #[.int .i64 x.wide, .int .i64 x.high, .slice p x.nodes.length c], .int .i64 cc, .int .i64 d] w fun e w' => e = .returned (.agg #[.int .i64 (lyHit x cc d).1, .int .i64 (lyHit x cc d).2]) ∧ Below w.heap.size w w' := by
  have HX := Lib.hid (HitSt.start w x p c 29 44 h)
  have HF := Lib.hid (fun W h => implLayoutFault_any x p c W h hl)
  clear h
  by_cases hf : lyFault x = 0
  · obtain ⟨R, hr, ht, hi⟩ := run_of_fault hf
    obtain ⟨wd0, wd1⟩ := inR_iff.1 ht.wide
    obtain ⟨hg0, hg1⟩ := inR_iff.1 ht.high
    have HO := Lib.hid (fun hh => hit_out (x := x) (c := cc) (d := d) hf hh)
    have HI := Lib.hid (fun h1 h2 => hit_in (x := x) (c := cc) (d := d) hf h1 h2)
    rw [hf] at HF
    have HRT := Lib.hid (fun h1 h2 => root_in (c := cc) (d := d) hi h1 h2)
    have HT := Lib.hid ht
    have HRR := Lib.hid hr
    clear hf hr ht hi
    cases h1 : inR cc 0 (x.wide - 1)
    · have HE := Lib.hid (HO.out (by rw [h1]; simp))
      go_enter Try.func26, Try.ntmps26
      go_wp2_with fail
      refine (HF.out _ HX.out.ly.nodes).mono ?_
      rintro e w1 ⟨rfl, b1⟩
      have HX1 := Lib.hid (HX.out.on b1)
      obtain ⟨x0, x1, x2⟩ := HX1.out.ly.cells.tri
      obtain ⟨z0, z1⟩ := HX1.out.res.cells.two
      have zf := HX1.out.res.free
      have hlt1 := HX1.out.res.cells.1
      have hlt0 := HX1.out.ly.cells.1
      have hlt2 : w.heap.size + 1 < w1.heap.size + 1 := by omega
      clear b1 HX
      go_wp2_with (go_at_call 44; refine (isWithin_two _ _ _ _ _ _ (by simp)).mono ?_; rw [h1]; rintro e w' ⟨rfl, rfl⟩)
      rw [HE.out]
      exact bodyPost_ret (v := .agg #[.int .i64 3, .int .i64 0]) (by simp [results, Try.results26, go_sem, z0, z1, hlt1]) rfl ⟨rfl, below_on (rr_low HX1.out.below _ _) (below_mk _ _)⟩
    cases h2 : inR d 0 (x.high - 1)
    · have HE := Lib.hid (HO.out (by rw [h2]; simp))
      go_enter Try.func26, Try.ntmps26
      go_wp2_with fail
      refine (HF.out _ HX.out.ly.nodes).mono ?_
      rintro e w1 ⟨rfl, b1⟩
      have HX1 := Lib.hid (HX.out.on b1)
      obtain ⟨x0, x1, x2⟩ := HX1.out.ly.cells.tri
      obtain ⟨z0, z1⟩ := HX1.out.res.cells.two
      have zf := HX1.out.res.free
      have hlt1 := HX1.out.res.cells.1
      have hlt0 := HX1.out.ly.cells.1
      have hlt2 : w.heap.size + 1 < w1.heap.size + 1 := by omega
      clear b1 HX
      go_wp2_with (go_at_call 44; refine (isWithin_two _ _ _ _ _ _ (by simp)).mono ?_; (first | rw [h1] | rw [h2]); rintro e w' ⟨rfl, rfl⟩)
      rw [HE.out]
      exact bodyPost_ret (v := .agg #[.int .i64 3, .int .i64 0]) (by simp [results, Try.results26, go_sem, z0, z1, hlt1, hlt2]) rfl ⟨rfl, below_on (below_on (rr_low HX1.out.below _ _) (below_mk _ _)) (below_mk _ _)⟩
    · have HE := Lib.hid (HI.out h1 h2)
      go_enter Try.func26, Try.ntmps26
      go_wp2_with fail
      refine (HF.out _ HX.out.ly.nodes).mono ?_
      rintro e w1 ⟨rfl, b1⟩
      have HX1 := Lib.hid (HX.out.on b1)
      obtain ⟨x0, x1, x2⟩ := HX1.out.ly.cells.tri
      have hlt1 := HX1.out.res.cells.1
      have hlt0 := HX1.out.ly.cells.1
      clear b1 HX
      have HX2 := Lib.hid (HX1.out.on (below_on (below_mk w1 (.cells #[.int .i64 0, .int .i64 (x.wide - 1)] 2)) (below_mk _ (.cells #[.int .i64 0, .int .i64 (x.high - 1)] 2))))
      have HC := Lib.hid (paneUnder_any x cc d p c _ HX2.out.ly.nodes HT.out R HRR.out (HRT.out h1 h2))
      go_wp2_with (first
        | (go_at_call 44; refine (isWithin_two _ _ _ _ _ _ (by simp)).mono ?_; (first | rw [h1] | rw [h2]); rintro e w' ⟨rfl, rfl⟩)
        | (go_at_call 55; refine HC.out.mono ?_; rintro e w2 ⟨rfl, b2⟩; have hX3 := HX2.out.on b2; have HX3 := Lib.hid hX3; obtain ⟨t0, t1⟩ := hX3.res.cells.two; have tf := hX3.res.free; clear b2 hX3))
      rw [HE.out]
      exact bodyPost_ret (v := .agg #[.int .i64 0, .int .i64 (hitOf (lyRects x) cc d)]) (by simp [results, Try.results26, go_sem, t0, t1]) rfl ⟨rfl, rr_low HX3.out.below _ _⟩
  · rw [hit_fault hf]
    have hf2 : (lyFault x != 0) = true := by simpa using hf
    clear hf
    generalize lyFault x = k at *
    go_enter Try.func26, Try.ntmps26
    go_wp2_with fail
    refine (HF.out _ HX.out.ly.nodes).mono ?_
    rintro e w1 ⟨rfl, b1⟩
    have HX1 := Lib.hid (HX.out.on b1)
    obtain ⟨z0, z1⟩ := HX1.out.res.cells.two
    have zf := HX1.out.res.free
    clear b1 HX
    go_wp2
    exact bodyPost_ret (v := .agg #[.int .i64 k, .int .i64 0]) (by simp [results, Try.results26, go_sem, z0, z1]) rfl ⟨rfl, rr_low HX1.out.below _ _⟩

set_option maxRecDepth 100000 in
set_option maxHeartbeats 4000000 in
theorem specHitAt_any (x : Ly) (cc d : Int) (p : Option Addr) (c : Nat) (w : World) (h : Qs w w.heap.size p x.nodes) (hl : x.nodes.length ≤ 1048576) :
    Calls Try.prog 25 #[.agg #[.int .i64 x.wide, .int .i64 x.high, .slice p x.nodes.length c], .int .i64 cc, .int .i64 d] w fun e w' => e = .returned (.agg #[.int .i64 (lyHit x cc d).1, .int .i64 (lyHit x cc d).2]) ∧ Below w.heap.size w w' := by
  have HX := Lib.hid (HitSt.start w x p c 29 44 h)
  have HF := Lib.hid (fun W h => specLayoutFault_any x p c W h hl)
  clear h
  by_cases hf : lyFault x = 0
  · obtain ⟨R, hr, ht, hi⟩ := run_of_fault hf
    obtain ⟨wd0, wd1⟩ := inR_iff.1 ht.wide
    obtain ⟨hg0, hg1⟩ := inR_iff.1 ht.high
    have HO := Lib.hid (fun hh => hit_out (x := x) (c := cc) (d := d) hf hh)
    have HI := Lib.hid (fun h1 h2 => hit_in (x := x) (c := cc) (d := d) hf h1 h2)
    rw [hf] at HF
    have HRT := Lib.hid (fun h1 h2 => root_in (c := cc) (d := d) hi h1 h2)
    have HT := Lib.hid ht
    have HRR := Lib.hid hr
    clear hf hr ht hi
    cases h1 : inR cc 0 (x.wide - 1)
    · have HE := Lib.hid (HO.out (by rw [h1]; simp))
      go_enter Try.func25, Try.ntmps25
      go_wp2_with fail
      refine (HF.out _ HX.out.ly.nodes).mono ?_
      rintro e w1 ⟨rfl, b1⟩
      have HX1 := Lib.hid (HX.out.on b1)
      obtain ⟨x0, x1, x2⟩ := HX1.out.ly.cells.tri
      obtain ⟨z0, z1⟩ := HX1.out.res.cells.two
      have zf := HX1.out.res.free
      have hlt1 := HX1.out.res.cells.1
      have hlt0 := HX1.out.ly.cells.1
      clear b1 HX
      go_wp2_with (go_at_call 40; refine (l1In_any _ _ _ _).mono ?_; rw [h1]; rintro e w' ⟨rfl, rfl⟩)
      rw [HE.out]
      exact bodyPost_ret (v := .agg #[.int .i64 3, .int .i64 0]) (by simp [results, Try.results25, go_sem, z0, z1]) rfl ⟨rfl, rr_low HX1.out.below _ _⟩
    cases h2 : inR d 0 (x.high - 1)
    · have HE := Lib.hid (HO.out (by rw [h2]; simp))
      go_enter Try.func25, Try.ntmps25
      go_wp2_with fail
      refine (HF.out _ HX.out.ly.nodes).mono ?_
      rintro e w1 ⟨rfl, b1⟩
      have HX1 := Lib.hid (HX.out.on b1)
      obtain ⟨x0, x1, x2⟩ := HX1.out.ly.cells.tri
      obtain ⟨z0, z1⟩ := HX1.out.res.cells.two
      have zf := HX1.out.res.free
      have hlt1 := HX1.out.res.cells.1
      have hlt0 := HX1.out.ly.cells.1
      clear b1 HX
      go_wp2_with (go_at_call 40; refine (l1In_any _ _ _ _).mono ?_; (first | rw [h1] | rw [h2]); rintro e w' ⟨rfl, rfl⟩)
      rw [HE.out]
      exact bodyPost_ret (v := .agg #[.int .i64 3, .int .i64 0]) (by simp [results, Try.results25, go_sem, z0, z1]) rfl ⟨rfl, rr_low HX1.out.below _ _⟩
    · have HE := Lib.hid (HI.out h1 h2)
      go_enter Try.func25, Try.ntmps25
      go_wp2_with fail
      refine (HF.out _ HX.out.ly.nodes).mono ?_
      rintro e w1 ⟨rfl, b1⟩
      have HX1 := Lib.hid (HX.out.on b1)
      obtain ⟨x0, x1, x2⟩ := HX1.out.ly.cells.tri
      have hlt1 := HX1.out.res.cells.1
      have hlt0 := HX1.out.ly.cells.1
      clear b1 HX
      have HC := Lib.hid (l6Hit_any x cc d p c w.heap.size w1 HX1.out.ly HT.out R HRR.out)
      go_wp2_with (first
        | (go_at_call 40; refine (l1In_any _ _ _ _).mono ?_; (first | rw [h1] | rw [h2]); rintro e w' ⟨rfl, rfl⟩)
        | (go_at_call 54; refine HC.out.mono ?_; rintro e w2 ⟨rfl, b2⟩; have hX3 := HX1.out.on b2; have HX3 := Lib.hid hX3; obtain ⟨t0, t1⟩ := hX3.res.cells.two; have tf := hX3.res.free; clear b2 hX3))
      rw [HE.out]
      exact bodyPost_ret (v := .agg #[.int .i64 0, .int .i64 (hitOf (lyRects x) cc d)]) (by simp [results, Try.results25, go_sem, t0, t1]) rfl ⟨rfl, rr_low HX3.out.below _ _⟩
  · rw [hit_fault hf]
    have hf2 : (lyFault x != 0) = true := by simpa using hf
    clear hf
    generalize lyFault x = k at *
    go_enter Try.func25, Try.ntmps25
    go_wp2_with fail
    refine (HF.out _ HX.out.ly.nodes).mono ?_
    rintro e w1 ⟨rfl, b1⟩
    have HX1 := Lib.hid (HX.out.on b1)
    obtain ⟨z0, z1⟩ := HX1.out.res.cells.two
    have zf := HX1.out.res.free
    clear b1 HX
    go_wp2
    exact bodyPost_ret (v := .agg #[.int .i64 k, .int .i64 0]) (by simp [results, Try.results25, go_sem, z0, z1]) rfl ⟨rfl, rr_low HX1.out.below _ _⟩

end Go.Proofs.Ytjopjddhgaiddaa
