import Derived.Test.YtkagiehbjnfabaaDoorSDig
import Derived.Test.YtkagiehbjnfabaaDoorMathAll
import Derived.Deep.RegionHeld3
namespace Go.Proofs.YtkagiehbjnfabaaDoor
open Go.RowKit
set_option linter.unusedVariables false
set_option maxRecDepth 100000 in
set_option maxHeartbeats 400000 in
theorem l3Start_any (seed:List UInt8) (c:Nat) (w:World) (hs:seed.length=32) (hc:c<256) :
 Calls Tryd.prog 67 #[.string ⟨seed.toArray⟩,.int .i64 (c:Int)] w fun e w'=>e=.returned (.string ⟨(startL seed c).toArray⟩)∧Below w.heap.size w w':=by
 have K1:=l3Byte_any c w hc
 have K2:=fun W=>stag2 tStart seed (byteL c) W (by decide) (by simp[byteL,hs])
 have HE:Hid (startL seed c=tagL tStart [seed,byteL c]):=rfl
 rw[←HE.out] at K2
 obtain⟨y,hy⟩:∃ y,y=startL seed c:=⟨_,rfl⟩
 rw[←hy] at K2 ⊢
 obtain⟨p,hp⟩:∃ p,p=byteL c:=⟨_,rfl⟩
 rw[←hp] at K1 K2
 clear HE hy hp
 go_enter Tryd.func67,Tryd.ntmps67
 go_wp2_with fail
 refine K1.mono ?_
 rintro e w1 ⟨rfl,b1⟩
 go_wp2_with fail
 refine (K2 w1).mono ?_
 rintro e w2 ⟨rfl,b2⟩
 have B2:=b1.trans (b2.mono b1.size)
 go_wp2
 go_ret
 exact⟨rfl,B2⟩
theorem keptS {w w':World} {b e n:Nat} {v:Value} {xs:List Value} (h:w.ownsRow b e 1 v n xs) (hb:Below w.heap.size w w'):w'.ownsRow b e 1 v n xs :=
 h.kept (row:=none) ⟨hb.os,hb.tape,hb.output,hb.size,fun k hk _=>hb.block k hk⟩ (by cases v.ownBlock with | none=>exact .inl rfl | some k=>exact .inr (by simp))
set_option maxRecDepth 100000 in
set_option maxHeartbeats 1000000 in
theorem l3Public_any (seed:List UInt8) (w:World) (hs:seed.length=32) :
 Calls Tryd.prog 51 #[.string ⟨seed.toArray⟩] w fun e w'=>e=.returned (.string ⟨(publicL seed).toArray⟩)∧Below w.heap.size w w':=by
 obtain⟨i0,hi0,hz0,hz1,hz2⟩:=info_parts info9t
 have HP:Hid (publicL seed=tagL tOnce (endsL seed 19)):=rfl
 have HF:Hid ((endsL seed 19).flatten.length=32*19):=by rw[Hid,flat32 _ (endsL_32 seed hs 19),endsL_length]
 obtain⟨out,hout⟩:∃ out,out=publicL seed:=⟨_,rfl⟩
 rw[←hout] at HP ⊢
 clear hout
 go_enter Tryd.func51,Tryd.ntmps51
 go_wp2
 go_loopw [3,4] (fun v i wr=>∃ j g cap:Nat,j≤19∧i=.int .i64 (j:Int)∧v=.slice (some ⟨g,0,none⟩) j cap∧wr.ownsRow w.heap.size 9 1 (.slice (some ⟨g,0,none⟩) j cap) j (scells (endsL seed j))∧Below w.heap.size w wr) (fun _ i _=>19 - (intOf i).toNat)
 case atStart=>exact⟨0,w.heap.size,0,by omega,rfl,rfl,World.ownsRow_lit w #[] 0 (Nat.le_refl _) (Nat.zero_le _) rfl,(Below.refl _ _).alloc (Nat.le_refl _) _⟩
 case round =>
  obtain⟨j,g,cap,hj,rfl,rfl,hown,hbel⟩:=hrel
  have hsz:=hbel.size
  by_cases hlt:j<19
  · have hlt':(j:Int)<19:=by omega
    have K1:=l3Start_any seed j wr hs (by omega)
    have K2:=fun W=>l3Chain_any j 0 3 (startL seed j) W (by omega) (by omega) (startL_len seed j hs)
    have HN:Hid (endsL seed (j+1)=endsL seed j ++ [chainL j 0 (startL seed j) 3]):=endsL_snoc seed j
    obtain⟨y,hy⟩:∃ y,y=chainL j 0 (startL seed j) 3:=⟨_,rfl⟩
    rw[←hy] at K2 HN
    obtain⟨x,hx⟩:∃ x,x=startL seed j:=⟨_,rfl⟩
    rw[←hx] at K1 K2
    have HO:=hidOwn hown
    have hbg:=own_base hown
    clear hy hx hown
    go_wp2_with fail
    refine K1.mono ?_
    rintro e w1 ⟨rfl,b1⟩
    have B1:=hbel.trans (b1.mono hsz)
    have O1:=hidOwn (keptS HO.out b1)
    clear HO b1 hbel K1
    go_wp2_with fail
    refine (K2 _).mono ?_
    rintro e w2 ⟨rfl,b2⟩
    have B2:=B1.trans (b2.mono B1.size)
    have hs2:=B2.size
    have hown2:=keptS O1.out b2
    clear O1 b2 B1 K2
    go_wp2_with (at_builtin;refine wpList_append_lies _ rfl _ _ 24 rfl w.heap.size 9 i0 (.string ⟨#[]⟩) 1 16 Tryd.underlying24 hi0 hz0 hz1 hz2 rfl (by decide) (.slice (some ⟨g,0,none⟩) j cap) j _ rfl (hown2.alloc _) ⟨w2.heap.size,0,none⟩ 1 1 [.string ⟨y.toArray⟩] rfl rfl (World.news_of_block (cs:=#[.string ⟨y.toArray⟩]) (t:=9) (fr:=(0,0)) (heap_alloc_new w2 _)) (by simp[Value.oneCell']) (by omega) (by unfold maxLen;omega) (by omega) (by simp;omega) (w2.heap.size+1) (by simp) ?_;intro g3 cap3 w3 hown3 hgrow3 hat3 hlt3)
    have B3:=below_app0 B2 hs2 hbg hgrow3
    have HO3:Hid (w3.ownsRow w.heap.size 9 1 (.slice (some ⟨g3,0,none⟩) (j+1) cap3) (j+1) (scells (endsL seed (j+1)))):=by rw[Hid,HN.out,scells_snoc];exact hown3
    clear hown3 hgrow3 hat3 hown2 B2
    go_wp2
    go_roundw
    case rel=>exact⟨j+1,g3,cap3,by omega,by go_num,rfl,HO3.out,B3⟩
    case measure=>simp[intOf];omega
  · have hj19:j=19:=by omega
    subst hj19
    have K:=spec_tagged tOnce g cap (endsL seed 19) w.heap.size wr (by decide) (by rw[endsL_length,HF.out];omega) (by rw[endsL_length];exact hown)
    rw[←HP.out,endsL_length] at K
    clear hown
    go_wp2_with fail
    refine K.mono ?_
    rintro e w1 ⟨rfl,b1⟩
    have B1:=hbel.trans (b1.mono hsz)
    go_wp2
    go_ret
    exact⟨rfl,B1⟩
end Go.Proofs.YtkagiehbjnfabaaDoor
