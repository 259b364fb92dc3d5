/-
  Laws for copy into a row of bytes of the call's own, and for slices of arrays. Conditions are each theorem's own.
-/
import Derived.Test.YtcfcmnhnijjehaaV6F
import Derived.Laws.CopyOwn
namespace Go.Proofs.Ytcfcmnhnijjehaa
open Go.RowKit

theorem row_splice (cur bs : List UInt8) (off : Nat) : splice (row cur) off (row bs) = row (splice cur off bs) := by
  simp [splice, row, List.map_take, List.map_drop]
theorem Rd.of_range {w : World} {g i B : Nat} {bs : List UInt8} (h : w.rangeAt g i (row bs)) (hg : g < B) : Rd w B (some ⟨g, i, none⟩) bs := fun _ =>
  ⟨g, i, rfl, hg, fun j hj => h j _ (row_get bs hj)⟩
section
variable {ops : Array Oper} {o : Oper} {a : Act} {w : World} {Q : Exit → Act → World → Prop}
theorem copy_wp {K : Act → World → Prop} (d s : Operand) (ho : o.op = .call { callee := .builtin .copy, args := #[d, s], argTypes := #[22, 22] })
    (g off dLen dCap : Nat) (dp A : Option Addr) (bs : List UInt8) (c B : Nat) (hd : a.eval d = .slice dp dLen dCap) (hdp : 0 < bs.length → dp = some ⟨g, off, none⟩) (hs : a.eval s = .slice A bs.length c)
    (cur : List UInt8) (hg : w.heap[g]? = some (.cells (row cur).toArray 5 (0, 0))) (hn : bs.length ≤ dLen) (hr : Rd w B A bs) (hfit : off + bs.length ≤ cur.length)
    (w0 : World) (B0 : Nat) (hb : Below B0 w0 w) (hBg : B0 ≤ g) (cur' : List UInt8) (hc' : cur' = splice cur off bs)
    (h : ∀ w', Hid (w'.heap[g]? = some (.cells (row cur').toArray 5 (0, 0))) → Below B0 w0 w' → w'.heap.size = w.heap.size → K (a.put o.dst (goInt bs.length)) w') : Oper.wp Try.prog o a w K Q := by
  subst hc'
  by_cases h0 : bs.length = 0
  · obtain rfl : bs = [] := List.eq_nil_of_length_eq_zero h0
    have hrun := run_copy_none (P := Try.prog) w 22 22 o.type 5 dp A dLen dCap 0 c Try.underlying22 size_u8 (Nat.zero_min _)
    unfold Oper.wp
    simp [execOp, ho, resolve, invoke, builtin, hd, hs, hrun, Result.andThen]
    exact h w (Lib.hid (by rw [hg]; simp [splice])) hb rfl
  · obtain ⟨b, of, rfl, hbB, hc⟩ := hr (by omega)
    have hrun := run_copy_row (P := Try.prog) w 22 22 o.type 5 g off dLen dCap ⟨b, of, none⟩ bs.length c (row cur).toArray 5 (row bs) Try.underlying22 size_u8 hg (by rw [row_length]; exact (Nat.min_eq_left hn).symm)
      (fun j v hj => by
        have hj' : j < bs.length := by have := (List.getElem?_eq_some_iff.1 hj).1; rwa [row_length] at this
        rw [row_getD bs hj' hj, add_off]; exact hc j hj') (by simp [row_length]; omega) (row_one bs)
    have hdp' := hdp (by omega)
    subst hdp'
    rw [row_length] at hrun
    unfold Oper.wp
    simp [execOp, ho, resolve, invoke, builtin, hd, hs, hrun, Result.andThen]
    change K (a.put o.dst (goInt (bs.length : Int))) _
    refine h _ (Lib.hid ?_) (below_setRow hb hBg _) (by simp)
    rw [setRow_heap _ _ _ _ _ _ hg, ← row_splice, splice, row_length]
theorem copy_wl {rest : List Oper} (hgd : o.guard = none) (d s : Operand) (ho : o.op = .call { callee := .builtin .copy, args := #[d, s], argTypes := #[22, 22] })
    (g off dLen dCap : Nat) (dp A : Option Addr) (bs : List UInt8) (c B : Nat) (hd : a.eval d = .slice dp dLen dCap) (hdp : 0 < bs.length → dp = some ⟨g, off, none⟩) (hs : a.eval s = .slice A bs.length c)
    (cur : List UInt8) (hg : w.heap[g]? = some (.cells (row cur).toArray 5 (0, 0))) (hn : bs.length ≤ dLen) (hr : Rd w B A bs) (hfit : off + bs.length ≤ cur.length)
    (w0 : World) (B0 : Nat) (hb : Below B0 w0 w) (hBg : B0 ≤ g) (cur' : List UInt8) (hc' : cur' = splice cur off bs)
    (h : ∀ w', Hid (w'.heap[g]? = some (.cells (row cur').toArray 5 (0, 0))) → Below B0 w0 w' → w'.heap.size = w.heap.size → wpList Try.prog ops Q rest (a.put o.dst (goInt bs.length)) w') : wpList Try.prog ops Q (o :: rest) a w :=
  wpList_plain hgd fun _ hK => copy_wp d s ho g off dLen dCap dp A bs c B hd hdp hs cur hg hn hr hfit w0 B0 hb hBg cur' hc' (fun w' h1 h2 h3 => hK _ _ (h w' h1 h2 h3))
theorem splice_mid4 {α : Type} (a z bs : List α) (k : Nat) (hk : a.length = k) : splice (a ++ z) k bs = (a ++ bs) ++ z.drop bs.length := by
  subst hk
  simp [splice]
theorem splice_mid (a z bs : List UInt8) (k : Nat) (hk : a.length = k) : splice (a ++ z) k bs = (a ++ bs) ++ z.drop bs.length := by
  subst hk
  simp [splice]
theorem out6 (q : P6) (hs : q.src.length = 16) (hd : q.dst.length = 16) (n : Nat) (hn : n = 40 + q.dat.length) : ∃ C5 C7 C8 : List UInt8, C5 = splice (List.replicate n 0) 0 (hd6 q) ∧ C7 = splice C5 8 q.src ∧ C8 = splice C7 24 q.dst ∧ bld6 q = splice C8 40 q.dat ∧ C5.length = n ∧ C7.length = n ∧ C8.length = n := by
  have h8 := hd6_len q
  have e5 := splice_mid [] (List.replicate n 0) (hd6 q) 0 rfl
  have e7 := splice_mid (hd6 q) ((List.replicate n 0).drop 8) q.src 8 h8
  have e8 := splice_mid (hd6 q ++ q.src) (((List.replicate n 0).drop 8).drop 16) q.dst 24 (by simp [h8, hs])
  have e9 := splice_mid (hd6 q ++ q.src ++ q.dst) ((((List.replicate n 0).drop 8).drop 16).drop 16) q.dat 40 (by simp [h8, hs, hd])
  rw [h8] at e5; rw [hs] at e7; rw [hd] at e8
  simp only [List.nil_append] at e5
  refine ⟨_, _, _, rfl, rfl, rfl, ?_, ?_, ?_, ?_⟩
  · rw [e5, e7, e8, e9, bld6]
    simp [hn]; omega
  · rw [e5]; simp [h8]; omega
  · rw [e5, e7]; simp [h8, hs]; omega
  · rw [e5, e7, e8]; simp [h8, hs, hd]; omega
theorem putL_6 (q : P6) (n : Int) (h : arg6 q) (hl : (q.dat.length : Int) ≤ 65535) (hn : n = fst6 q) : putL [(n, 4), ((q.dat.length : Int), 2), (q.next, 1), (q.hop, 1)] = hd6 q := by
  obtain ⟨a1, a2, a3, a4, a5, a6, a7, a8⟩ := h
  have hf : fst6 q = 1610612736 + q.traffic * 1048576 + q.flow := rfl
  subst hn
  simp only [putL, List.foldl_cons, List.foldl_nil]
  rw [put_four (by omega) (by omega), put_two (by omega) hl, put_one a3 a4, put_one a5 a6, hd6]
  simp
theorem fst6_bits (q : P6) (h : arg6 q) : bits .or .i64 (wrap64 (bits .or .i64 1536 q.traffic * 1048576)) q.flow = fst6 q := by
  obtain ⟨a1, a2, a3, a4, a5, a6, a7, a8⟩ := h
  have e1 := or_byte 6 q.traffic (by omega) (by omega) a1 a2
  have e1' : bits .or .i64 1536 q.traffic = 1536 + q.traffic := by simpa using e1
  have e2 : wrap64 ((1536 + q.traffic) * 1048576) = (1536 + q.traffic) * 1048576 := by
    have := IntWalk.i64_in ((1536 + q.traffic) * 1048576) (by omega)
    simpa [wrap64, IntKind.wrap_i64] using this
  have e3 := bits_join .i64 62 (by decide) wraps_i64 20 ((1536 + q.traffic) * 1048576) q.flow (by omega) (by omega) (by omega) a7 (by omega) (by omega)
  have hf : fst6 q = 1610612736 + q.traffic * 1048576 + q.flow := rfl
  rw [e1', e2, e3, hf]; omega
theorem run_slice_six {x : Operand} {g i : Nat} (ho : o.op = .slice 42 x none none none) (hx : a.eval x = .pointer (some ⟨g, i, none⟩)) :
    (execOp a.eval o).run Try.prog w = .ok (.value (.slice (some ⟨g, i, none⟩) 16 16)) w := by
  unfold execOp
  simp only [ho, hx, Option.map]
  go_simp
end
end Go.Proofs.Ytcfcmnhnijjehaa
