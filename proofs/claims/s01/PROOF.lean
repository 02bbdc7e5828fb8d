import PyProof.Rows.All
import KE.OsGo
import PySem.Challenge.RW_bothwaysdesk_s01_base_of
open PySem PySem.W
set_option Elab.async false
namespace My
theorem skip : ∀ (pre rest : List Int), (∀ v ∈ pre, ¬ v = 0 ∧ ¬ v = 1) → (∀ x ∈ pre, 0 ≤ x) →
    Rb08.firstLetter ((pre ++ rest).map Int.toNat) = Rb08.firstLetter (rest.map Int.toNat)
  | [], _, _, _ => rfl
  | x :: r, rest, h, hb => by
    have hx := h x List.mem_cons_self
    have h0 := hb x List.mem_cons_self
    show (if Int.toNat x ≤ 1 then Int.toNat x else Rb08.firstLetter ((r ++ rest).map Int.toNat)) = _
    rw [if_neg (by omega)]
    exact skip r rest (fun v hv => h v (List.mem_cons_of_mem _ hv)) (fun v hv => hb v (List.mem_cons_of_mem _ hv))
theorem found {pre post : List Int} {k : Int} (h : ∀ v ∈ pre, ¬ v = 0 ∧ ¬ v = 1) (hb : ∀ x ∈ pre ++ k :: post, 0 ≤ x ∧ x ≤ 7) (hk : k = 0 ∨ k = 1) :
    [k] = PyRb08.base_of (pre ++ k :: post) := by
  show [k] = [((Rb08.firstLetter ((pre ++ k :: post).map Int.toNat) : Nat) : Int)]
  rw [skip pre (k :: post) h (fun x hx => (hb x (List.mem_append_left _ hx)).1)]
  have e : Rb08.firstLetter ((k :: post).map Int.toNat) = if Int.toNat k ≤ 1 then Int.toNat k else Rb08.firstLetter (post.map Int.toNat) := rfl
  rw [e, if_pos (by omega)]
  congr 1
  omega
theorem none_there {ns : List Int} (h : ∀ v ∈ ns, ¬ v = 0 ∧ ¬ v = 1) (hb : ∀ x ∈ ns, 0 ≤ x ∧ x ≤ 7) : [0] = PyRb08.base_of ns := by
  show [0] = [((Rb08.firstLetter (ns.map Int.toNat) : Nat) : Int)]
  have := skip ns [] h (fun x hx => (hb x hx).1)
  rw [List.append_nil] at this
  rw [this]
  rfl
end My
set_option maxRecDepth 100000 in
set_option maxHeartbeats 8000000 in
theorem PySem.Challenge.cw_bothwaysdesk_s01_base_of_holds : PySem.Challenge.rw_bothwaysdesk_s01_base_of.Holds := by
  k_with "pyIter ref" => k_search (fun pre => ∀ v ∈ pre, ¬ v = 0 ∧ ¬ v = 1)
  open_ks
  · os_ints
    subst kEq
    refine os_same_list ?_
    exact congrArg (List.map PyData.int) (My.found kInv (by assumption) (by omega))
  · os_ints
    subst kEq
    refine os_same_list ?_
    exact congrArg (List.map PyData.int) (My.found kInv (by assumption) (by omega))
  · os_ints
    refine os_same_list ?_
    exact congrArg (List.map PyData.int) (My.none_there kInv (by assumption))
#print axioms PySem.Challenge.cw_bothwaysdesk_s01_base_of_holds
