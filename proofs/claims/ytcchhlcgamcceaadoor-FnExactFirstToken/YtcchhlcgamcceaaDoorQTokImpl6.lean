/- The program's tokens: escapeToken and tokenOutside. -/
import Derived.Test.YtcchhlcgamcceaaDoorQTokImpl2ToTokImpl5
namespace Go.Proofs.YtcchhlcgamcceaaDoor
open Go.RowKit
set_option linter.unusedVariables false

set_option maxRecDepth 100000 in
set_option maxHeartbeats 4000000 in
theorem escapeToken_seq_done (b off n c : Nat) (x : Int) (w : World) (hn : n ≤ 1048576) (hb : b < w.heap.size) (hi : 1 < n) (hc : w.cell? ⟨b, off + 1, none⟩ = some (.int .u8 x)) (hx : x = 91)
    (e : Ev) (s : Int) (pa no : Bool) (HG : Hid (∀ w', Below w.heap.size w w' → Calls Tryd.prog 55 #[.slice (some ⟨b, off, none⟩) n c] w' (NewTok w' e s pa no))) :
    Calls Tryd.prog 40 #[.slice (some ⟨b, off, none⟩) n c] w (NewTok w e s pa no) := by
  have HN := Lib.hid (fun (w : World) hc => neededByte_ok b off n c 1 x w hi hn hc)
  subst hx
  go_enter Tryd.func40, Tryd.ntmps40
  go_wp2_with fail
  refine (HN.out _ ?_).mono ?_
  · simp [go_sem, hc, hb]
  rintro en w1 ⟨rfl, rfl⟩
  go_wp2_with fail
  refine (HG.out _ (below_mk _ _)).mono ?_
  rintro en w2 ⟨v, rfl, ho, hb2⟩
  obtain ⟨pp, cc, hv⟩ := ho.slice
  subst hv
  obtain ⟨hcc, hf⟩ := bcell hb2
  have HE : Hid (NewTok w e s pa no (.returned (tokV e (.slice pp e.data.length cc) s pa no)) (sets w2 w.heap.size 0 (tokL e (.slice pp e.data.length cc) s pa no))) := tok_end (tokL e (.slice pp e.data.length cc) s pa no) ho hb2
  clear hb2 ho HG
  unfold tokV
  go_wp2_with fail
  refine bodyPost_ret (v := tokV e (.slice pp e.data.length cc) s pa no) ?_ rfl HE.out
  simp [results, Tryd.results40, tokV, go_sem, hcc]

set_option maxRecDepth 100000 in
set_option maxHeartbeats 4000000 in
theorem escapeToken_seq_wait (b off n c : Nat) (x : Int) (w : World) (hn : n ≤ 1048576) (hb : b < w.heap.size) (hi : 1 < n) (hc : w.cell? ⟨b, off + 1, none⟩ = some (.int .u8 x)) (hx : x = 91)
    (HG : Hid (∀ w', Below w.heap.size w w' → Calls Tryd.prog 55 #[.slice (some ⟨b, off, none⟩) n c] w' (Waits w'))) :
    Calls Tryd.prog 40 #[.slice (some ⟨b, off, none⟩) n c] w (Waits w) := by
  have HN := Lib.hid (fun (w : World) hc => neededByte_ok b off n c 1 x w hi hn hc)
  subst hx
  go_enter Tryd.func40, Tryd.ntmps40
  go_wp2_with fail
  refine (HN.out _ ?_).mono ?_
  · simp [go_sem, hc, hb]
  rintro en w1 ⟨rfl, rfl⟩
  go_wp2_with fail
  refine (HG.out _ (below_mk _ _)).mono ?_
  rintro en w2 ⟨rfl, hb2⟩
  go_wp2_with fail
  exact ⟨rfl, rfl, below_on (below_mk _ _) hb2⟩

set_option maxRecDepth 100000 in
set_option maxHeartbeats 4000000 in
theorem escapeToken_let_done (b off n c : Nat) (x : Int) (w : World) (hn : n ≤ 1048576) (hb : b < w.heap.size) (hi : 1 < n) (hc : w.cell? ⟨b, off + 1, none⟩ = some (.int .u8 x)) (hx : x = 79)
    (e : Ev) (s : Int) (pa no : Bool) (HG : Hid (∀ w', Below w.heap.size w w' → Calls Tryd.prog 56 #[.slice (some ⟨b, off, none⟩) n c] w' (NewTok w' e s pa no))) :
    Calls Tryd.prog 40 #[.slice (some ⟨b, off, none⟩) n c] w (NewTok w e s pa no) := by
  have HN := Lib.hid (fun (w : World) hc => neededByte_ok b off n c 1 x w hi hn hc)
  subst hx
  go_enter Tryd.func40, Tryd.ntmps40
  go_wp2_with fail
  refine (HN.out _ ?_).mono ?_
  · simp [go_sem, hc, hb]
  rintro en w1 ⟨rfl, rfl⟩
  go_wp2_with fail
  refine (HG.out _ (below_mk _ _)).mono ?_
  rintro en w2 ⟨v, rfl, ho, hb2⟩
  obtain ⟨pp, cc, hv⟩ := ho.slice
  subst hv
  obtain ⟨hcc, hf⟩ := bcell hb2
  have HE : Hid (NewTok w e s pa no (.returned (tokV e (.slice pp e.data.length cc) s pa no)) (sets w2 w.heap.size 0 (tokL e (.slice pp e.data.length cc) s pa no))) := tok_end (tokL e (.slice pp e.data.length cc) s pa no) ho hb2
  clear hb2 ho HG
  unfold tokV
  go_wp2_with fail
  refine bodyPost_ret (v := tokV e (.slice pp e.data.length cc) s pa no) ?_ rfl HE.out
  simp [results, Tryd.results40, tokV, go_sem, hcc]

set_option maxRecDepth 100000 in
set_option maxHeartbeats 4000000 in
theorem escapeToken_let_wait (b off n c : Nat) (x : Int) (w : World) (hn : n ≤ 1048576) (hb : b < w.heap.size) (hi : 1 < n) (hc : w.cell? ⟨b, off + 1, none⟩ = some (.int .u8 x)) (hx : x = 79)
    (HG : Hid (∀ w', Below w.heap.size w w' → Calls Tryd.prog 56 #[.slice (some ⟨b, off, none⟩) n c] w' (Waits w'))) :
    Calls Tryd.prog 40 #[.slice (some ⟨b, off, none⟩) n c] w (Waits w) := by
  have HN := Lib.hid (fun (w : World) hc => neededByte_ok b off n c 1 x w hi hn hc)
  subst hx
  go_enter Tryd.func40, Tryd.ntmps40
  go_wp2_with fail
  refine (HN.out _ ?_).mono ?_
  · simp [go_sem, hc, hb]
  rintro en w1 ⟨rfl, rfl⟩
  go_wp2_with fail
  refine (HG.out _ (below_mk _ _)).mono ?_
  rintro en w2 ⟨rfl, hb2⟩
  go_wp2_with fail
  exact ⟨rfl, rfl, below_on (below_mk _ _) hb2⟩

set_option maxRecDepth 100000 in
set_option maxHeartbeats 4000000 in
theorem tokenOutside_esc_done (b off n c : Nat) (x : Int) (w : World) (hn : n ≤ 1048576) (hb : b < w.heap.size) (hi : 0 < n) (hc : w.cell? ⟨b, off, none⟩ = some (.int .u8 x)) (hx : x = 27)
    (e : Ev) (s : Int) (pa no : Bool) (HG : Hid (∀ w', Below w.heap.size w w' → Calls Tryd.prog 40 #[.slice (some ⟨b, off, none⟩) n c] w' (NewTok w' e s pa no))) :
    Calls Tryd.prog 22 #[.slice (some ⟨b, off, none⟩) n c] w (NewTok w e s pa no) := by
  subst hx
  go_enter Tryd.func22, Tryd.ntmps22
  go_wp2_with fail
  refine (HG.out _ (below_mk _ _)).mono ?_
  rintro en w2 ⟨v, rfl, ho, hb2⟩
  obtain ⟨pp, cc, hv⟩ := ho.slice
  subst hv
  obtain ⟨hcc, hf⟩ := bcell hb2
  have HE : Hid (NewTok w e s pa no (.returned (tokV e (.slice pp e.data.length cc) s pa no)) (sets w2 w.heap.size 0 (tokL e (.slice pp e.data.length cc) s pa no))) := tok_end (tokL e (.slice pp e.data.length cc) s pa no) ho hb2
  clear hb2 ho HG
  unfold tokV
  go_wp2_with fail
  refine bodyPost_ret (v := tokV e (.slice pp e.data.length cc) s pa no) ?_ rfl HE.out
  simp [results, Tryd.results22, tokV, go_sem, hcc]

set_option maxRecDepth 100000 in
set_option maxHeartbeats 4000000 in
theorem tokenOutside_esc_wait (b off n c : Nat) (x : Int) (w : World) (hn : n ≤ 1048576) (hb : b < w.heap.size) (hi : 0 < n) (hc : w.cell? ⟨b, off, none⟩ = some (.int .u8 x)) (hx : x = 27)
    (HG : Hid (∀ w', Below w.heap.size w w' → Calls Tryd.prog 40 #[.slice (some ⟨b, off, none⟩) n c] w' (Waits w'))) :
    Calls Tryd.prog 22 #[.slice (some ⟨b, off, none⟩) n c] w (Waits w) := by
  subst hx
  go_enter Tryd.func22, Tryd.ntmps22
  go_wp2_with fail
  refine (HG.out _ (below_mk _ _)).mono ?_
  rintro en w2 ⟨rfl, hb2⟩
  go_wp2_with fail
  exact ⟨rfl, rfl, below_on (below_mk _ _) hb2⟩

set_option maxRecDepth 100000 in
set_option maxHeartbeats 4000000 in
theorem tokenOutside_pt_done (b off n c : Nat) (x : Int) (w : World) (hn : n ≤ 1048576) (hb : b < w.heap.size) (hi : 0 < n) (hc : w.cell? ⟨b, off, none⟩ = some (.int .u8 x)) (hx : (x == 27) = false) (hy : 128 ≤ x)
    (e : Ev) (s : Int) (pa no : Bool) (HG : Hid (∀ w', Below w.heap.size w w' → Calls Tryd.prog 41 #[.slice (some ⟨b, off, none⟩) n c] w' (NewTok w' e s pa no))) :
    Calls Tryd.prog 22 #[.slice (some ⟨b, off, none⟩) n c] w (NewTok w e s pa no) := by
  go_enter Tryd.func22, Tryd.ntmps22
  go_wp2_with fail
  refine (HG.out _ (below_mk _ _)).mono ?_
  rintro en w2 ⟨v, rfl, ho, hb2⟩
  obtain ⟨pp, cc, hv⟩ := ho.slice
  subst hv
  obtain ⟨hcc, hf⟩ := bcell hb2
  have HE : Hid (NewTok w e s pa no (.returned (tokV e (.slice pp e.data.length cc) s pa no)) (sets w2 w.heap.size 0 (tokL e (.slice pp e.data.length cc) s pa no))) := tok_end (tokL e (.slice pp e.data.length cc) s pa no) ho hb2
  clear hb2 ho HG
  unfold tokV
  go_wp2_with fail
  refine bodyPost_ret (v := tokV e (.slice pp e.data.length cc) s pa no) ?_ rfl HE.out
  simp [results, Tryd.results22, tokV, go_sem, hcc]

set_option maxRecDepth 100000 in
set_option maxHeartbeats 4000000 in
theorem tokenOutside_pt_wait (b off n c : Nat) (x : Int) (w : World) (hn : n ≤ 1048576) (hb : b < w.heap.size) (hi : 0 < n) (hc : w.cell? ⟨b, off, none⟩ = some (.int .u8 x)) (hx : (x == 27) = false) (hy : 128 ≤ x)
    (HG : Hid (∀ w', Below w.heap.size w w' → Calls Tryd.prog 41 #[.slice (some ⟨b, off, none⟩) n c] w' (Waits w'))) :
    Calls Tryd.prog 22 #[.slice (some ⟨b, off, none⟩) n c] w (Waits w) := by
  go_enter Tryd.func22, Tryd.ntmps22
  go_wp2_with fail
  refine (HG.out _ (below_mk _ _)).mono ?_
  rintro en w2 ⟨rfl, hb2⟩
  go_wp2_with fail
  exact ⟨rfl, rfl, below_on (below_mk _ _) hb2⟩

set_option maxRecDepth 100000 in
set_option maxHeartbeats 4000000 in
theorem tokenOutside_key (b off n c : Nat) (x : Int) (w : World) (hn : n ≤ 1048576) (hb : b < w.heap.size) (hi : 0 < n) (hc : w.cell? ⟨b, off, none⟩ = some (.int .u8 x)) (h0 : 0 ≤ x) (hx : (x == 27) = false) (hy : x < 128) (tk : Tk) (htk : keyB x = tk) (hk : tk.code = 0) (hd : tk.ev.data = []) :
    Calls Tryd.prog 22 #[.slice (some ⟨b, off, none⟩) n c] w (NewTok w tk.ev tk.size tk.paste tk.none) := by
  have HK := Lib.hid (fun w => implKeyOfByte_any x w h0)
  rw [htk] at HK
  obtain ⟨tcode, ⟨t1, t2, t3, t4, t5, t6, t7, td⟩, tsize, tpaste, tnone⟩ := tk
  dsimp only at *
  subst hk hd
  clear htk
  go_enter Tryd.func22, Tryd.ntmps22
  go_wp2_with fail
  refine (HK.out _).mono ?_
  rintro e w2 ⟨rfl, hb2⟩
  obtain ⟨hcc, hf⟩ := bcell hb2
  have l0 := new_lt hb2
  have n0 : ¬ w.heap.size = w2.heap.size := by omega
  have HE : ∀ A, Hid (NewTok w ⟨t1, t2, t3, t4, t5, t6, t7, []⟩ tsize tpaste tnone (.returned (tokV ⟨t1, t2, t3, t4, t5, t6, t7, []⟩ (.slice none 0 0) tsize tpaste tnone)) ((sets w2 w.heap.size 0 (tokL ⟨t1, t2, t3, t4, t5, t6, t7, []⟩ (.slice none 0 0) tsize tpaste tnone)).alloc A)) := fun A => (tok_end (tokL ⟨t1, t2, t3, t4, t5, t6, t7, []⟩ (.slice none 0 0) tsize tpaste tnone) (own_nil _ _) hb2).more A
  clear hb2
  unfold tkV
  dsimp only
  go_wp2_with fail
  refine bodyPost_ret (v := tokV ⟨t1, t2, t3, t4, t5, t6, t7, []⟩ (.slice none 0 0) tsize tpaste tnone) ?_ rfl (HE _).out
  simp [results, Tryd.results22, tokV, go_sem, hcc, l0]

set_option maxRecDepth 100000 in
set_option maxHeartbeats 4000000 in
theorem tokenOutside_raw (b off n c : Nat) (x : Int) (w : World) (hn : n ≤ 1048576) (hb : b < w.heap.size) (hi : 0 < n) (hnc : n ≤ c) (hc : w.cell? ⟨b, off, none⟩ = some (.int .u8 x)) (h0 : 0 ≤ x) (hx : (x == 27) = false) (hy : x < 128) (htk : keyB x = badTk 5) (d : List UInt8)
    (HR : Hid (∀ w', Below w.heap.size w w' → Calls Tryd.prog 43 #[.slice (some ⟨b, off, none⟩) 1 c] w' (NewTok w' (rawEv d) 1 false false))) :
    Calls Tryd.prog 22 #[.slice (some ⟨b, off, none⟩) n c] w (NewTok w (rawEv d) 1 false false) := by
  have HK := Lib.hid (fun w => implKeyOfByte_any x w h0)
  rw [htk] at HK
  clear htk
  go_enter Tryd.func22, Tryd.ntmps22
  go_wp2_with fail
  refine (HK.out _).mono ?_
  rintro e w1 ⟨rfl, hb1⟩
  have HB1 := Lib.hid hb1
  have HR2 := Lib.hid (fun A => HR.out _ (below_on (below_on (below_mk _ _) hb1) (below_mk _ A)))
  clear hb1 HR
  unfold tkV badTk noEv
  dsimp only
  go_wp2_with fail
  refine (HR2.out _).mono ?_
  rintro e w2 ⟨v, rfl, ho, hb2⟩
  obtain ⟨pp, cc, hv⟩ := ho.slice
  subst hv
  have hb3 := below_past HB1.out hb2
  obtain ⟨hcc, hf⟩ := bcell hb3
  have HE : Hid (NewTok w (rawEv d) 1 false false (.returned (tokV (rawEv d) (.slice pp d.length cc) 1 false false)) (sets w2 w.heap.size 0 (tokL (rawEv d) (.slice pp d.length cc) 1 false false))) := tok_end (tokL (rawEv d) (.slice pp d.length cc) 1 false false) (ho.lower (past_le HB1.out _)) hb3
  clear ho hb2 hb3
  unfold tokV rawEv
  dsimp only
  go_wp2_with fail
  refine bodyPost_ret (v := tokV (rawEv d) (.slice pp d.length cc) 1 false false) ?_ rfl HE.out
  simp [results, Tryd.results22, tokV, rawEv, go_sem, hcc]

end Go.Proofs.YtcchhlcgamcceaaDoor
