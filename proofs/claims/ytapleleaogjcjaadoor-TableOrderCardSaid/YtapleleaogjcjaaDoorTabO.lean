/- The program's table at a block; what a call that writes it leaves; contracts of New, put, Get. -/
import Derived.Test.YtapleleaogjcjaaDoorTabM
import Derived.Test.YtapleleaogjcjaaDoorTabB
import Derived.Test.YtapleleaogjcjaaDoorEntA
namespace Go.Proofs.YtapleleaogjcjaaDoor
open Go.RowKit PTab

/-- The table at block g holds L; F are its blocks; it was written c times at most. -/
structure Tb (w : World) (g : Nat) (F : List Nat) (c : Nat) (L : List Pr) : Prop where
  ex : ∃ q, Blk w g 50 [.map q] ∧ Mq w (.map q) c L ∧ F = g :: ml (.map q)
  ok : Ok L
section
variable {w w' : World} {g c : Nat} {F S : List Nat} {L : List Pr}
theorem Tb.hi (h : Tb w g F c L) : ∀ k ∈ F, k < w.heap.size := by
  obtain ⟨q, hB, hM, rfl⟩ := h.ex
  intro k hk
  rcases List.mem_cons.1 hk with rfl | hk
  · exact hB.lt
  · exact hM.hi k hk
theorem Tb.touch (h : Tb w g F c L) (ht : Touch S w w') (hd : ∀ k ∈ S, k ∉ F) : Tb w' g F c L := by
  obtain ⟨q, hB, hM, rfl⟩ := h.ex
  exact ⟨⟨q, hB.touch ht (fun hm => hd g hm (List.mem_cons_self ..)), hM.touch ht (fun s hs e => hd s hs (List.mem_cons_of_mem _ e)), rfl⟩, h.ok⟩
theorem Tb.past (h : Tb w g F c L) (hb : Below w.heap.size w w') : Tb w' g F c L := h.touch (S := []) (.of_below hb) (by simp)
theorem Tb.drew (h : Tb w g F c L) : Tb w.drew g F c L := ⟨h.ex, h.ok⟩
theorem Tb.alloc (h : Tb w g F c L) (o : Obj) : Tb (w.alloc o) g F c L := h.past ((Below.refl _ _).alloc (Nat.le_refl _) _)
theorem Tb.self (h : Tb w g F c L) : g ∈ F := by obtain ⟨q, hB, hM, rfl⟩ := h.ex; exact List.mem_cons_self ..
theorem Tb.mono {c' : Nat} (h : Tb w g F c L) (hc : c ≤ c') : Tb w g F c' L := by obtain ⟨q, hB, hM, hF⟩ := h.ex; exact ⟨⟨q, hB, hM.mono hc, hF⟩, h.ok⟩
theorem Tb.open (h : Tb w g F c L) : ∃ q, w.cell? ⟨g, 0, none⟩ = some (.map q) ∧ Mq w (.map q) c L := by
  obtain ⟨q, hB, hM, rfl⟩ := h.ex
  exact ⟨q, hB.cell (i := 0) rfl, hM⟩
/-- What a call leaves that writes the table at block g, whose blocks were F. -/
structure TW (w w' : World) (g : Nat) (F : List Nat) (c : Nat) (L : List Pr) : Prop where
  ex : ∃ F', Tb w' g F' c L ∧ ∀ k ∈ F', k ∈ F ∨ w.heap.size ≤ k
  touch : Touch F w w'
theorem TW.same (h : Tb w g F c L) (hb : Below w.heap.size w w') : TW w w' g F c L := ⟨⟨F, h.past hb, fun _ hk => .inl hk⟩, .of_below hb⟩
theorem TW.behind {w0 : World} (h : TW w w' g F c L) (hb : Below w0.heap.size w0 w) : TW w0 w' g F c L := by
  obtain ⟨⟨F', h1, h2⟩, h3⟩ := h
  exact ⟨⟨F', h1, fun k hk => (h2 k hk).imp id (fun h => Nat.le_trans hb.size h)⟩, (Touch.of_below hb).trans h3⟩
theorem TW.ahead {w2 : World} (h : TW w w' g F c L) (hb : Below w'.heap.size w' w2) : TW w w2 g F c L := by
  obtain ⟨⟨F', h1, h2⟩, h3⟩ := h
  exact ⟨⟨F', h1.past hb, h2⟩, h3.trans (.of_below hb)⟩
end

theorem New_c (w : World) : Calls Tryd.prog 9 #[] w fun x w' => x = .returned (.pointer (some ⟨w.heap.size, 0, none⟩)) ∧ Tb w' w.heap.size [w.heap.size] 0 [] ∧ Below w.heap.size w w' := by
  have K := Lib.hid (Blk.new w #[.map none] 50)
  have b := Lib.hid ((Below.refl w.heap.size w).alloc (Nat.le_refl _) (.cells #[.map none] 50))
  go_enter Tryd.func9, Tryd.ntmps9
  go_wp2_with fail
  go_ret
  exact ⟨rfl, ⟨⟨none, K.out, .inl ⟨rfl, rfl⟩, rfl⟩, Ok.nil⟩, b.out⟩

set_option maxRecDepth 100000 in
theorem Get_c (w : World) (g : Nat) (F : List Nat) (c : Nat) (L : List Pr) (h : Tb w g F c L) (k : ByteArray) (hk : k.size ≤ maxLen) :
    Calls Tryd.prog 17 #[.pointer (some ⟨g, 0, none⟩), .string k] w fun x w' => x = .returned (.tuple #[.string ((get L k).getD ⟨#[]⟩), .bool (get L k).isSome]) ∧ Below w.heap.size w w' := by
  obtain ⟨q, d0, hM⟩ := h.open
  have hl := hM.look hk
  have b := Lib.hid ((Below.refl w.heap.size w).alloc (Nat.le_refl _) (.cells #[.string ((get L k).getD ⟨#[]⟩)] 54))
  clear h hM hk
  generalize (get L k).getD ⟨#[]⟩ = x at *
  generalize (get L k).isSome = y at *
  go_enter Tryd.func17, Tryd.ntmps17
  go_wp2_with fail
  go_ret2
  exact ⟨rfl, b.out⟩
theorem GetNil_c (w : World) (k : ByteArray) :
    Calls Tryd.prog 17 #[.pointer none, .string k] w fun x w' => x = .returned (.tuple #[.string ⟨#[]⟩, .bool false]) ∧ Below w.heap.size w w' := by
  go_enter Tryd.func17, Tryd.ntmps17
  go_wp2_with fail
  go_ret2
  exact ⟨rfl, Below.refl _ _⟩
end Go.Proofs.YtapleleaogjcjaaDoor
