/-
  Layer 6's small functions: get, fresh, put; packets and fragment headers that lie in a block of their own. Conditions are each theorem's own.
-/
import Derived.Test.YtcfcmnhnijjehaaV6M
import Derived.Test.YtcfcmnhnijjehaaV4U
namespace Go.Proofs.Ytcfcmnhnijjehaa
open Go.RowKit

/-- A fragment header in a block of its own. -/
def fra (f : F6) : Array Value := #[.int .i64 f.next, .int .i64 f.off, .int .i64 f.id, .bool f.more]
def AtF (W : World) (g : Nat) (f : F6) : Prop := W.rangeAt g 0 (fra f).toList
section
variable {W : World} {g : Nat} {f : F6}
theorem AtF.new (w : World) : AtF (w.alloc (.cells (fra f) 52)) w.heap.size f := fun j v hj => by
  rw [Nat.zero_add, World.cell?_alloc_new, ← hj, Array.getElem?_toList]
theorem AtF.below {w : World} {B : Nat} (h : AtF W g f) (hb : Below B W w) (hg : g < B) : AtF w g f := range_below h hg hb
theorem AtF.next (h : AtF W g f) : W.cell? ⟨g, 0, none⟩ = some (.int .i64 f.next) := h 0 _ rfl
theorem AtF.off (h : AtF W g f) : W.cell? ⟨g, 1, none⟩ = some (.int .i64 f.off) := h 1 _ rfl
theorem AtF.id (h : AtF W g f) : W.cell? ⟨g, 2, none⟩ = some (.int .i64 f.id) := h 2 _ rfl
theorem AtF.more (h : AtF W g f) : W.cell? ⟨g, 3, none⟩ = some (.bool f.more) := h 3 _ rfl
end
/-- A new block of Bools. -/
theorem range_bools (w : World) (bs : List Bool) (t : TypeId) : (w.alloc (.cells (bs.map Value.bool).toArray t)).rangeAt w.heap.size 0 (bs.map Value.bool) := fun j v hj => by
  rw [Nat.zero_add, World.cell?_alloc_new, ← hj, List.getElem?_toArray]

theorem all6_new (bs : List Bool) (cs : Array Value) (n : Nat) (t : TypeId) (w : World) (hc : cs = (bs.map Value.bool).toArray) (hn : n = bs.length) (hl : bs.length ≤ 1000) :
    Calls Try.prog 65 #[.slice (some ⟨w.heap.size, 0, none⟩) n n] (w.alloc (.cells cs t)).drew fun e w' => e = .returned (.bool (allB bs)) ∧ (w.alloc (.cells cs t)).drew = w' := by
  subst hc; subst hn
  exact all6_any w.heap.size bs _ hl (range_bools w bs t)
theorem all4_new (bs : List Bool) (cs : Array Value) (n : Nat) (t : TypeId) (w : World) (hc : cs = (bs.map Value.bool).toArray) (hn : n = bs.length) (hl : bs.length ≤ 1000) :
    Calls Try.prog 52 #[.slice (some ⟨w.heap.size, 0, none⟩) n n] (w.alloc (.cells cs t)).drew fun e w' => e = .returned (.bool (allB bs)) ∧ (w.alloc (.cells cs t)).drew = w' := by
  subst hc; subst hn
  exact all4_any w.heap.size bs _ hl (range_bools w bs t)
theorem get6_any (A : Option Addr) (bs : List UInt8) (c B : Nat) (at_ s : Int) (w : World) (h : Rd w B A bs) (hl : bs.length ≤ 1099511627776) (hc : bs.length ≤ c) :
    Calls Try.prog 67 #[.slice A bs.length c, .int .i64 at_, .int .i64 s] w fun e w' => e = .returned (.int .i64 (getV bs at_ s)) ∧ w = w' := by
  go_enter Try.func67, Try.ntmps67
  go_wp2_with (go_at_call 84; refine (get_any A bs c B at_ s _ h hl hc).mono ?_; rintro e w' ⟨rfl, rfl⟩)
  go_ret
  exact ⟨rfl, rfl⟩
theorem get4_any (A : Option Addr) (bs : List UInt8) (c B : Nat) (at_ s : Int) (w : World) (h : Rd w B A bs) (hl : bs.length ≤ 1099511627776) (hc : bs.length ≤ c) :
    Calls Try.prog 78 #[.slice A bs.length c, .int .i64 at_, .int .i64 s] w fun e w' => e = .returned (.int .i64 (getV bs at_ s)) ∧ w = w' := by
  go_enter Try.func78, Try.ntmps78
  go_wp2_with (go_at_call 84; refine (get_any A bs c B at_ s _ h hl hc).mono ?_; rintro e w' ⟨rfl, rfl⟩)
  go_ret
  exact ⟨rfl, rfl⟩
theorem fresh_any (A : Option Addr) (bs : List UInt8) (c B : Nat) (w : World) (h : Arg w B A c bs) (hl : bs.length ≤ 1099511627776) :
    Calls Try.prog 69 #[.slice A bs.length c] w fun e w' => ∃ v, e = .returned v ∧ Made w w' v bs := by
  have hr := h.rd
  have hn := h.none_
  go_enter Try.func69, Try.ntmps69
  go_wp2_with (at_builtin; refine append_rd rfl _ _ rfl w.heap.size _ _ _ rfl (World.ownsRow_nil _ _ _ _) B A c bs rfl hn hr (by omega) (Nat.le_refl _) ?_; intro v1 w1 hown hgrow)
  go_ret
  have hb1 : Below w.heap.size w w1 := (Below.refl _ w).grown hgrow (Nat.le_refl _) (fun k hk => by cases (show (none : Option Nat) = some k from hk))
  exact ⟨_, rfl, Made.of_own (by simpa using hown) hb1⟩
/-- Numbers of so many bytes, one behind the other. -/
def putL (ps : List (Int × Int)) : List UInt8 := ps.foldl (fun b x => putB b x.1 x.2) []
theorem putL_snoc (ps : List (Int × Int)) (x : Int × Int) : putL (ps ++ [x]) = putB (putL ps) x.1 x.2 := by simp [putL]
theorem putL_len (ps : List (Int × Int)) (h : ∀ x ∈ ps, x.2.toNat ≤ 4) : (putL ps).length ≤ 4 * ps.length := by
  have key : ∀ (ps : List (Int × Int)) (b : List UInt8), (∀ x ∈ ps, x.2.toNat ≤ 4) → (ps.foldl (fun b x => putB b x.1 x.2) b).length ≤ b.length + 4 * ps.length := by
    intro ps
    induction ps with
    | nil => intro b _; simp
    | cons x l ih =>
      intro b hx
      have h1 := ih (putB b x.1 x.2) (fun y hy => hx y (by simp [hy]))
      have h2 := putB_le (n := x.1) (Nat.le_refl b.length) (hx x (by simp))
      simp only [List.foldl_cons, List.length_cons]; omega
  simpa [putL] using key ps [] h
theorem putL_take (ps : List (Int × Int)) {k : Nat} {x : Int × Int} (h : ps[k]? = some x) : putL (ps.take (k + 1)) = putB (putL (ps.take k)) x.1 x.2 := by
  rw [List.take_add_one, h]; exact putL_snoc _ _
theorem made_shape {w w' : World} {v : Value} {bs : List UInt8} (h : Made w w' v bs) : ∃ A c, v = .slice A bs.length c ∧ Arg w' w'.heap.size A c bs ∧ w'.ownsRow w.heap.size 5 1 (.slice A bs.length c) bs.length (row bs) ∧ Below w.heap.size w w' := by
  obtain ⟨A, c, rfl, hl, hr, ho, hb⟩ := h
  exact ⟨A, c, rfl, arg_own ho, ho, hb⟩
set_option maxHeartbeats 4000000 in
theorem put6_any (g : Nat) (ps : List (Int × Int)) (w : World) (hn : ps.length ≤ 10) (hs : ∀ x ∈ ps, x.2.toNat ≤ 4) (hg : g < w.heap.size)
    (h : ∀ (k : Nat) (x : Int × Int), ps[k]? = some x → w.cell? ⟨g, k * 2, none⟩ = some (.int .i64 x.1) ∧ w.cell? ⟨g, k * 2 + 1, none⟩ = some (.int .i64 x.2)) :
    Calls Try.prog 63 #[.slice (some ⟨g, 0, none⟩) ps.length ps.length] w fun e w' => ∃ v, e = .returned v ∧ Made w w' v (putL ps) := by
  have H := Lib.hid h
  clear h
  have HL := Lib.hid (fun k => (putL_len (ps.take k) (fun x hx => hs x (List.mem_of_mem_take hx))))
  clear hs
  go_enter Try.func63, Try.ntmps63
  go_wp2
  go_loopw [3, 8] (fun v i W => ∃ (k c : Nat) (A : Option Addr) (bs : List UInt8), k ≤ ps.length ∧ i = .int .i64 (k : Int) ∧ Hid (bs = putL (ps.take k)) ∧ bs.length ≤ 40 ∧ v = .slice A bs.length c ∧ W.ownsRow w.heap.size 5 1 (.slice A bs.length c) bs.length (row bs) ∧ Below w.heap.size w W) (fun _ i _ => ps.length - (intOf i).toNat)
  case atStart => exact ⟨0, 0, none, [], Nat.zero_le _, rfl, Lib.hid rfl, by simp, rfl, World.ownsRow_nil _ _ _ _, Below.refl _ _⟩
  case round =>
    obtain ⟨k, c, A, bs, hk, rfl, HB, hb40, rfl, hown, hbel⟩ := hrel
    by_cases hlt : k < ps.length
    · obtain ⟨x, hx⟩ : ∃ x, ps[k]? = some x := ⟨_, List.getElem?_eq_getElem hlt⟩
      obtain ⟨c1, c2⟩ := H.out k x hx
      have HX := Lib.hid hx
      clear hx
      have d1 := (hbel.cell (p := ⟨g, k * 2, none⟩) hg).trans c1
      have d2 := (hbel.cell (p := ⟨g, k * 2 + 1, none⟩) hg).trans c2
      clear c1 c2
      obtain ⟨n, s⟩ := x
      simp only at d1 d2
      go_wp2_with (go_at_call 72; refine (put_any A bs c _ n s _ (arg_own (own_below hown ((Below.refl _ _).alloc (Nat.le_refl _) _) )).rd (Nat.le_refl _) (by omega)).mono ?_; rintro e w2 ⟨v2, rfl, A2, c2, rfl, l2, rd2, ow2, x2⟩)
      have hz2 := x2.size
      have bel2 : Below w.heap.size w w2 := (hbel.alloc hbel.size _).trans (x2.mono (by simp; exact Nat.le_succ_of_le hbel.size))
      have own2 : w2.ownsRow w.heap.size 5 1 (.slice A2 (putB bs n s).length c2) (putB bs n s).length (row (putB bs n s)) := own_base ow2 (by simp; exact Nat.le_succ_of_le hbel.size)
      have HP := Lib.hid (putL_take ps HX.out)
      have h40 : (putB bs n s).length ≤ 40 := by
        rw [HB.out, ← HP.out]
        have := HL.out (k + 1)
        have h2 : (ps.take (k + 1)).length ≤ ps.length := by rw [List.length_take]; omega
        omega
      go_roundw
      case rel => exact ⟨k + 1, c2, A2, _, by omega, by simp, Lib.hid (by rw [HP.out, HB.out]), h40, rfl, own2, bel2⟩
      case measure => simp [intOf]; omega
    · obtain rfl : k = ps.length := by omega
      go_wp2
      go_ret
      have e : bs = putL ps := by rw [HB.out, List.take_length]
      subst e
      exact ⟨_, rfl, Made.of_own hown hbel⟩
theorem Made.after {w W w' : World} {v : Value} {bs : List UInt8} (h : Made W w' v bs) (hb : Below w.heap.size w W) : Made w w' v bs := by
  obtain ⟨A, c, rfl, hl, hr, ho, hB⟩ := h
  exact Made.of_own (own_base ho hb.size) (hb.trans (hB.mono hb.size))
theorem Made.below {w w' : World} {v : Value} {bs : List UInt8} (h : Made w w' v bs) : Below w.heap.size w w' := by
  obtain ⟨A, c, rfl, hl, hr, ho, hB⟩ := h
  exact hB
theorem putR_F (f : F6) (p : Int) (h : okF f) (hp : p = f.off + bit f.more 1) : putB (putB [u8 f.next, 0] p 2) f.id 4 = bldF f := by
  rw [bldF, if_pos h]
  obtain ⟨h1, h2, h3, h4, h5, h6, h7⟩ := h
  have hb : 0 ≤ bit f.more 1 ∧ bit f.more 1 ≤ 1 := by unfold bit; cases f.more <;> simp
  subst hp
  rw [put_two (by omega) (by omega), put_four h6 h7, bytF]
theorem arg_pair (w : World) (n : Int) {m : Int} (h : m = n % 256) : Arg (w.alloc (.cells #[.int .u8 m, .int .u8 0] 5)) (w.heap.size + 1) (some ⟨w.heap.size, 0, none⟩) 2 [u8 n, 0] :=
  ⟨Rd.pair _ (by rw [u8_val]; exact h) rfl, by simp, fun e => by cases e⟩
def flat : List (Int × Int) → List Value
  | [] => []
  | x :: l => .int .i64 x.1 :: .int .i64 x.2 :: flat l
theorem flat_get : ∀ (ps : List (Int × Int)) (k : Nat) (x : Int × Int), ps[k]? = some x → (flat ps)[k * 2]? = some (.int .i64 x.1) ∧ (flat ps)[k * 2 + 1]? = some (.int .i64 x.2)
  | [], k, x, h => by simp at h
  | y :: l, 0, x, h => by simp at h; subst h; exact ⟨rfl, rfl⟩
  | y :: l, k + 1, x, h => by
    have := flat_get l k x (by simpa using h)
    rw [show (k + 1) * 2 = k * 2 + 1 + 1 from by omega]
    simpa [flat] using this
theorem put6_new (ps : List (Int × Int)) (cs : Array Value) (n : Nat) (t : TypeId) (w : World) (hc : cs = (flat ps).toArray) (hn : n = ps.length) (hl : ps.length ≤ 10) (hs : ∀ x ∈ ps, x.2.toNat ≤ 4) :
    Calls Try.prog 63 #[.slice (some ⟨w.heap.size, 0, none⟩) n n] (w.alloc (.cells cs t)) fun e w' => ∃ v, e = .returned v ∧ Made w w' v (putL ps) := by
  subst hc; subst hn
  refine (put6_any w.heap.size ps _ hl hs (by simp) fun k x hx => ?_).mono ?_
  · obtain ⟨h1, h2⟩ := flat_get ps k x hx
    exact ⟨by rw [World.cell?_alloc_new, List.getElem?_toArray]; exact h1, by rw [World.cell?_alloc_new, List.getElem?_toArray]; exact h2⟩
  · rintro e w' ⟨v, he, hm⟩
    exact ⟨v, he, hm.after ((Below.refl _ w).alloc (Nat.le_refl _) _)⟩
theorem put_one {bs : List UInt8} {n : Int} (h0 : 0 ≤ n) (h1 : n ≤ 255) : putB bs n 1 = bs ++ [u8 n] := by
  rw [putB, if_pos (fitsB_iff.2 ⟨by omega, by omega, h0, by simp [pw]; omega⟩)]
  simp [digs, List.range_succ, u8_dig h0, pw]
theorem putL_F (f : F6) (p : Int) (h : okF f) (hp : p = f.off + bit f.more 1) : putL [(f.next, 1), (0, 1), (p, 2), (f.id, 4)] = bldF f := by
  rw [bldF, if_pos h]
  obtain ⟨h1, h2, h3, h4, h5, h6, h7⟩ := h
  have hb : 0 ≤ bit f.more 1 ∧ bit f.more 1 ≤ 1 := by unfold bit; cases f.more <;> simp
  subst hp
  simp only [putL, List.foldl_cons, List.foldl_nil]
  rw [put_one h1 h2, put_one (by omega) (by omega), put_two (by omega) (by omega), put_four h6 h7, bytF]
  rfl
end Go.Proofs.Ytcfcmnhnijjehaa
