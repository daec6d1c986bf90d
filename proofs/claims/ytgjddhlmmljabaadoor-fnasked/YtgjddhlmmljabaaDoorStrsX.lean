import Derived.Test.YtgjddhlmmljabaaDoorStrsAll
namespace Go.Proofs.YtgjddhlmmljabaaDoor
open Go.RowKit
set_option linter.unusedVariables false
theorem strs_later {w w':World} {a:Option Addr} {ls:List (List UInt8)} (h:IsStrs w a ls) (hb:Below w.heap.size w w'):IsStrs w' a ls:=by
 rcases h with h | ⟨b,off,h1,h2⟩
 · exact .inl h
 · exact .inr ⟨b,off,h1,fun j h=>(hb.cell (p:=⟨b,off+j,none⟩) (World.block_lt_of_cell? w _ (h2 j h))).trans (h2 j h)⟩
theorem strs_own {w:World} {base e n:Nat} {a:Option Addr} {m cap:Nat} {ls:List (List UInt8)} (h:w.ownsRow base e 1 (.slice a m cap) n (scells ls)):m=ls.length∧n=ls.length∧IsStrs w a ls:=by
 have hn:n=ls.length:=by have:=h.1;rw[scells_length] at this;omega
 rcases own_cases h with ⟨hv,h0,hx⟩ | ⟨g,cap',hv,hg1,hg2,hc,hf⟩
 · cases hv
   exact⟨by omega,hn,.inl (List.length_eq_zero_iff.1 (by omega))⟩
 · cases hv
   exact⟨hn,hn,.inr ⟨g,0,rfl,fun j hj=>by rw[Nat.zero_add,hc j (by omega),scells_at ls j hj]⟩⟩
theorem keptX {w w':World} {b e n:Nat} {v:Value} {xs:List Value} (h:w.ownsRow b e 1 v n xs) (hb:Below w.heap.size w w'):w'.ownsRow b e 1 v n xs :=
 h.kept (row:=none) ⟨hb.os,hb.tape,hb.output,hb.size,fun k hk _=>hb.block k hk⟩ (by
  cases hv:v.ownBlock with
  | none=>exact .inl rfl
  | some k=>exact .inr (by simp))
def bytesN (ls:List (List UInt8)):Nat:=ls.flatten.length
end Go.Proofs.YtgjddhlmmljabaaDoor
