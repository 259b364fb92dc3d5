/-
  Contract of be.Words and of the iterator that it hands back: it tells the pairs of bytes in order, each with its number. Conditions are each theorem's own.
-/
import Derived.Test.YtcfcmnhnijjehaaBeB
namespace Go.Proofs.Ytcfcmnhnijjehaa
open Go.RowKit Go.Shelf
attribute [local go_sem] Oper.semAt_some

/-- The number of pair i (a byte that is not there is 0), and where it begins. Plain definitions. -/
def wrd (bs : List UInt8) (i : Nat) : Int := byt bs (2 * i) * 256 + byt bs (2 * i + 1)
def dbl (i : Nat) : Int := ((2 * i : Nat) : Int)
theorem byt_beyond {bs : List UInt8} {j : Nat} (h : bs.length ≤ j) : byt bs j = 0 := by simp [byt, List.getElem?_eq_none h]
theorem wrd_bd (bs : List UInt8) (i : Nat) : 0 ≤ wrd bs i ∧ wrd bs i ≤ 65535 := by
  have := byt_lo bs (2 * i); have := byt_lo bs (2 * i + 1); have := byt_hi bs (2 * i); have := byt_hi bs (2 * i + 1)
  unfold wrd; omega
def encW (bs : List UInt8) (i : Nat) : Array Value := #[.int .i64 (dbl i), .int .i64 (wrd bs i)]
/-- How many pairs. -/
def prs (n : Nat) : Nat := (n + 1) / 2

theorem byt_pad (bs : List UInt8) (n j : Nat) : byt (pad bs n) j = byt bs j := by
  unfold byt pad
  by_cases h : j < bs.length
  · rw [List.getElem?_append_left h]
  · rw [List.getElem?_append_right (by omega), List.getElem?_eq_none (l := bs) (by omega)]
    by_cases h2 : j - bs.length < n - bs.length
    · rw [List.getElem?_replicate, if_pos h2]; rfl
    · rw [List.getElem?_replicate, if_neg h2]
theorem num_two (bs : List UInt8) (h : bs.length = 2) : num bs = byt bs 0 * 256 + byt bs 1 := by
  match bs, h with
  | [x, y], _ => simp [num, byt]

theorem word_any (b j i c : Nat) (bs : List UInt8) (n : Nat) (w : World) (hj : j = 2 * i) (hs : j + 2 ≤ (pad bs n).length)
    (hc : ∀ j, j < (pad bs n).length → w.cell? ⟨b, j, none⟩ = some (.int .u8 (byt (pad bs n) j))) :
    Calls Try.prog 93 #[.slice (some ⟨b, j, none⟩) 2 c] w fun e w' => e = .returned (.int .i64 (wrd bs i)) ∧ w = w' := by
  have h := number_cut b 0 j 2 c (b + 1) (pad bs n) w hs (by omega) (Nat.lt_succ_self b) (by simpa using hc)
  have e : num (((pad bs n).drop j).take 2) = wrd bs i := by
    rw [num_two _ (len_cut hs), byt_cut _ _ _ (by omega), byt_cut _ _ _ (by omega), byt_pad, byt_pad, Nat.add_zero, wrd, hj]
  rw [Nat.zero_add, e] at h
  exact h

set_option maxRecDepth 100000 in
set_option maxHeartbeats 2000000 in
theorem words1_in (m : Nat) (hm : 1 ≤ m) (l lo hi Bs g n : Nat) (bs : List UInt8) (hn : n = 2 * prs bs.length) (hl : bs.length ≤ 1099511627000) (hBs : lo ≤ Bs ∧ Bs < hi) (hg : lo ≤ g ∧ g < hi) (J Jx : List Nat → World → Prop)
    (hY : ∀ pre x W, J pre W → pre.length < prs bs.length → YieldAt Fence.wide (m - 1) Try.prog l (encW bs x) W fun e W' =>
      (e = .returned (.bool true) ∧ J (pre ++ [x]) W' ∧ Holds lo hi W W') ∨ (e = .returned (.bool false) ∧ Jx (pre ++ [x]) W'))
    (W : World) (hb : W.cell? ⟨Bs, 0, none⟩ = some (.slice (some ⟨g, 0, none⟩) n n)) (hc : W.heap[g]? = some (.cells (row (pad bs n)).toArray 5 (0, 0))) (hJ : J [] W) :
    CallsIn Fence.wide m Try.prog 95 #[.func (.yield l) #[] #[], .pointer (some ⟨Bs, 0, none⟩)] W fun e W' => (∃ v, e = .returned v) ∧
      ((∃ ys, ys = List.range (prs bs.length) ∧ J ys W') ∨ (∃ pre, (∃ k, k ≤ prs bs.length ∧ pre = List.range k) ∧ Jx pre W')) := by
  have hpl : (pad bs n).length = n := pad_length (by unfold prs at hn; omega)
  have Hpl := Lib.hid hpl
  clear hpl
  have hn2 : n ≤ 1099511627776 := by unfold prs at hn; omega
  have Hn := Lib.hid hn
  clear hn
  refine callsIn_of_wp Try.func95 rfl trivial ?_ rfl
  simp only [Try.ntmps95, List.size_toArray, List.length_cons, List.length_nil, Nat.reduceAdd, Nat.reduceSub, Array.replicate_succ, Array.replicate_zero, List.push_toArray, List.append_toArray, List.nil_append, List.cons_append]
  gi_wp2
  gi_loopw [3] (fun i wr => ∃ j k : Nat, Hid (j = 2 * k) ∧ j ≤ n ∧ i = .int .i64 (j : Int) ∧ J (List.range k) wr ∧ Holds lo hi W wr)
    (fun i _ => n - (intOf i).toNat)
  case atStart => exact ⟨0, 0, Lib.hid rfl, Nat.zero_le _, rfl, hJ, Holds.refl _ _ _⟩
  case round =>
    obtain ⟨j, k, Hj, hk, rfl, hJs, hH⟩ := hrel
    have hb' := (hH.cell (p := ⟨Bs, 0, none⟩) hBs.1 hBs.2).trans hb
    have hc' := (hH.2 g hg.1 hg.2).trans hc
    by_cases hlt : j < n
    · have hj2 : j + 2 ≤ n := by have := Hj.out; have := Hn.out; omega
      have hkl : k < prs bs.length := by have := Hj.out; have := Hn.out; omega
      have Hcell := Lib.hid (fun (i : Nat) (hi : i < (pad bs n).length) => row_cell hc' hi)
      clear hc'
      obtain ⟨fn, tmps, assign, body, hy, hR⟩ := hY _ k wr hJs (by simpa using hkl)
      dsimp only [encW] at hy
      rw [show dbl k = (j : Int) from by rw [dbl, ← Hj.out]] at hy
      gi_wp2_with (first
        | (refine ⟨trivial, ?_⟩; gi_at_call 88; refine (callsIn_wide.2 (cut_any g 0 n n j 2 _ (by omega) (by omega) (by omega) (by omega))).mono ?_; rintro e w' ⟨rfl, rfl⟩)
        | (refine ⟨trivial, ?_⟩; gi_at_call 93; refine (callsIn_wide.2 (word_any g j k _ bs n _ Hj.out (by rw [Hpl.out]; omega) Hcell.out)).mono ?_; rintro e w' ⟨rfl, rfl⟩))
      refine hR.mono ?_
      rintro e W3 (⟨rfl, hJ3, hk3⟩ | ⟨rfl, hJx3⟩)
      · gi_wp2
        go_roundw
        case rel => exact ⟨j + 2, k + 1, Lib.hid (by have := Hj.out; omega), by omega, by simp, by rw [List.range_succ]; exact hJ3, hH.trans hk3⟩
        case measure => simp [intOf]; omega
      · gi_wp2
        refine bodyPost_ret (results_none rfl _ _ _) rfl ?_
        exact ⟨⟨_, rfl⟩, .inr ⟨_, ⟨k + 1, by omega, List.range_succ.symm⟩, hJx3⟩⟩
    · obtain rfl : j = n := by omega
      gi_wp2
      go_end0
      exact ⟨⟨_, rfl⟩, .inl ⟨_, rfl, by have := Hj.out; have := Hn.out; rwa [show prs bs.length = k from by omega]⟩⟩

theorem roomy_v (A : Option Addr) (bs : List UInt8) (c B n : Nat) (v : Int) (hv : v = (n : Int)) (w : World) (h : Rd w B A bs) (hB : B ≤ w.heap.size) (hl : bs.length ≤ n) (hn : n ≤ 1099511627776) :
    Calls Try.prog 86 #[.slice A bs.length c, .int .i64 v] w
      fun e w' => e = .returned (.slice (some ⟨w.heap.size, 0, none⟩) n n) ∧ w'.heap[w.heap.size]? = some (.cells (row (pad bs n)).toArray 5 (0, 0)) ∧ Below w.heap.size w w' := by
  subst hv; exact roomy_any A bs c B n w h hB hl hn

/-- Words: new memory; an iterator that tells the pairs in order, as long as a round keeps the blocks that Words made. -/
theorem words_any (A : Option Addr) (bs : List UInt8) (c B : Nat) (w : World) (h : Rd w B A bs) (hB : B ≤ w.heap.size) (hl : bs.length ≤ 1099511627000) :
    Calls Try.prog 91 #[.slice A bs.length c] w fun e w' => ∃ Bs, e = .returned (.func (.func 95) #[] #[.pointer (some ⟨Bs, 0, none⟩)]) ∧ Below w.heap.size w w' ∧
      (∀ m, 1 ≤ m → SeqStopsK Fence.wide m Try.prog 95 #[.pointer (some ⟨Bs, 0, none⟩)] (encW bs) (Holds w.heap.size w'.heap.size)
        (fun ys => ys = List.range (prs bs.length)) (fun pre => ∃ k, k ≤ prs bs.length ∧ pre = List.range k) (prs bs.length) w') := by
  obtain ⟨n, hn⟩ : ∃ n, n = 2 * prs bs.length := ⟨_, rfl⟩
  have hn' : bs.length + bs.length % 2 = n := by unfold prs at hn; omega
  have Hn := Lib.hid hn
  have Hn' := Lib.hid hn'
  have hle : bs.length ≤ n := by omega
  have hle2 : n ≤ 1099511627776 := by omega
  clear hn hn'
  go_enter Try.func91, Try.ntmps91
  go_wp2_with (go_at_call 86; refine (roomy_v A bs c B n _ (by have := Hn'.out; omega) _ h hB hle hle2).mono ?_; rintro e w1 ⟨rfl, hg1, hb1⟩)
  go_ret
  have hbx := Boxed.new w1 22 (.slice (some ⟨w.heap.size, 0, none⟩) n n)
  have hb2 : Below w.heap.size w (w1.alloc (.cells #[.slice (some ⟨w.heap.size, 0, none⟩) n n] 22)) := hb1.alloc hb1.size _
  have hlt := heap_lt hg1
  refine ⟨w1.heap.size, rfl, hb2, fun m hm l J Jx W hW _ _ hY hJ => ?_⟩
  have hs : (w1.alloc (.cells #[.slice (some ⟨w.heap.size, 0, none⟩) n n] 22)).heap.size = w1.heap.size + 1 := by simp
  refine words1_in m hm l w.heap.size _ w1.heap.size w.heap.size n bs Hn.out hl ⟨hb1.size, by rw [hs]; omega⟩ ⟨Nat.le_refl _, by rw [hs]; omega⟩ J Jx hY W ?_ ?_ hJ
  · exact (hW.cell (p := ⟨w1.heap.size, 0, none⟩) (by rw [hs]; simp)).trans hbx.cell
  · exact (hW.block _ (by rw [hs]; omega)).trans ((Below.heap_alloc _ _ _ hlt).trans hg1)
end Go.Proofs.Ytcfcmnhnijjehaa
