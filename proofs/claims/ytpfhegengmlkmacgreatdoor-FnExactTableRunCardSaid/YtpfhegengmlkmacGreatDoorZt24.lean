/- Texts of this claim. -/
import Derived.Test.YtpfhegengmlkmacGreatDoorZt23
namespace Go.Proofs.YtpfhegengmlkmacGreatDoor
open Go.RowKit Go.BigFrame
theorem setT_true_eq {m:ByteArray×Int} {o R l:List (ByteArray×Int)} {k:Nat} (hk:k < l.length) (h:o ++ setT m true (l.drop k)=R) (e:l[k].1=m.1):o ++ setT m true (l.drop (k + 1))=R:=by
 rw [List.drop_eq_getElem_cons hk] at h
 simp only [setT,if_true] at h ⊢
 rwa [List.filter_cons_of_neg (by simp [e])] at h
theorem setT_true_ne {m:ByteArray×Int} {o R l:List (ByteArray×Int)} {k:Nat} (hk:k < l.length) (h:o ++ setT m true (l.drop k)=R) (e:l[k].1≠m.1):(o ++ [(l[k].1,l[k].2)]) ++ setT m true (l.drop (k + 1))=R:=by
 rw [List.drop_eq_getElem_cons hk] at h
 simp only [setT,if_true] at h ⊢
 rw [List.filter_cons_of_pos (by simp [e])] at h
 rw [<- h];simp
theorem le_of_not {x m:ByteArray} (h:Op.bytesLess x.toList m.toList=false):(Op.bytesLess m.toList x.toList || m.toList == x.toList)=true:=by
 by_cases k:Op.bytesLess m.toList x.toList=true
 ·simp [k]
 ·have e:=bl_tri (Bool.not_eq_true _ ▸ k) h
  simp [e]
theorem setT_lt {m:ByteArray×Int} {o R l:List (ByteArray×Int)} {k:Nat} (hk:k < l.length) (h:o ++ setT m false (l.drop k)=R) (e:Op.bytesLess l[k].1.toList m.1.toList=true):(o ++ [(l[k].1,l[k].2)]) ++ setT m false (l.drop (k + 1))=R:=by
 rw [List.drop_eq_getElem_cons hk] at h
 simp only [setT,setR,e,if_true,Bool.false_eq_true,if_false] at h ⊢
 rw [<- h];simp
theorem setT_put {m:ByteArray×Int} {o R l:List (ByteArray×Int)} {k:Nat} (hk:k < l.length) (h:o ++ setT m false (l.drop k)=R) (e:Op.bytesLess l[k].1.toList m.1.toList=false):(o ++ [(m.1,m.2)]) ++ setT m true (l.drop k)=R:=by
 rw [List.drop_eq_getElem_cons hk] at h ⊢
 simp only [setT,setR,e,if_true,Bool.false_eq_true,if_false] at h ⊢
 rw [<- h];simp
theorem setT_end {m:ByteArray×Int} {o R l:List (ByteArray×Int)} {k:Nat} (hk:¬ k < l.length) (h:o ++ setT m false (l.drop k)=R):o ++ [(m.1,m.2)]=R:=by
 rw [List.drop_of_length_le (by omega)] at h
 simpa [setT,setR] using h
theorem setT_end' {m:ByteArray×Int} {o R l:List (ByteArray×Int)} {k:Nat} (hk:¬ k < l.length) (h:o ++ setT m true (l.drop k)=R):o=R:=by
 rw [List.drop_of_length_le (by omega)] at h
 simpa [setT] using h
theorem pre_len {o t R:List (ByteArray×Int)} (h:o ++ t=R):o.length<=R.length:=by rw [<- h];simp
theorem drewN_named {W1 wr:World} {B B' n:Nat} {v:Value} {o:List (ByteArray×Int)} (hb:Below B W1 wr) (hg:Gath wr B' v o):∃ v1,wr.drewN n=v1∧Below B W1 v1∧Gath v1 B' v o:=⟨_,rfl,below_drewN hb n,hg⟩
set_option maxHeartbeats 3200000 in
theorem l1Set_any (a:Option Addr) (cap:Nat) (l:List (ByteArray×Int)) (m:ByteArray×Int) (w:World) (hl:l.length<=1048576) (hr:Row w a l) :
  Calls Tryz.prog 123 #[.slice a l.length cap,.agg #[.string m.1,.int .i64 m.2]] w fun e w'=>(∃ v,e=.returned v∧Gath w' w.heap.size v (setR m l))∧Below w.heap.size w w':=by
 obtain ⟨i0,hi,hz0,hz1,hz2⟩:=info_parts Tryz.infoM
 have hRl:=setR_length (m:=m) (l:=l)
 go_enter Tryz.func123,Tryz.ntmps123
 go_wp2_with fail
 have b0:=box0 w (.string m.1) (.int .i64 m.2) 144
 have b1:=box1 w (.string m.1) (.int .i64 m.2) 144
 have hbx:=box_lt w (.cells #[.string m.1,.int .i64 m.2] 144)
 have hba:Below w.heap.size w (w.alloc (.cells #[.string m.1,.int .i64 m.2] 144)):=(Below.refl _ _).alloc (Nat.le_refl _) _
 have hra:=hr.below hba
 generalize (w.alloc (.cells #[.string m.1,.int .i64 m.2] 144))=W1 at *
 go_loopw [5,6,7] (fun out put i wr=>∃ k:Nat,k<=l.length∧i=.int .i64 k∧∃ (o:List (ByteArray×Int)) (p:Bool),Gath wr W1.heap.size out o∧put=.bool p∧o ++ setT m p (l.drop k)=setR m l∧Below W1.heap.size W1 wr) (fun _ _ i _=>l.length - (intOf i).toNat)
 case atStart=>exact ⟨0,Nat.zero_le _,rfl,[],false,Gath.none _ _,rfl,by simp [setT],Below.refl _ _⟩
 case round=>
  obtain ⟨k,hk,rfl,o,p,hg,rfl,hinv,hb⟩:=hrel
  have holen:=pre_len hinv
  by_cases hlt:k < l.length
  ·obtain ⟨b,ob,rfl,hblt,c0,c1⟩:=hra k hlt
   have x0:=cell_on hb hbx b0
   have x1:=cell_on hb hbx b1
   have e0:=cell_on hb hblt c0
   have e1:=cell_on hb hblt c1
   cases p
   ·by_cases hA:Op.bytesLess l[k].1.toList m.1.toList=true
    ·have hb':(l[k].1.toList == m.1.toList)=false:=toList_bne.2 (asc_ne hA)
     have HI:Hid _:=setT_lt hlt hinv hA
     have hb1':Op.bytesLess m.1.toList l[k].1.toList=false:=by simpa [Asc] using asc_not hA
     have hb2':(m.1.toList == l[k].1.toList)=false:=toList_bne.2 (Ne.symm (asc_ne hA))
     go_wp2_with fail
     go_quiet (fail)
     obtain ⟨u1,hvv,hb8,hg8⟩:=drewN_named (n:=nq) hb hg
     rw [hvv]
     clear hvv
     have x0:=cell_on hb8 hbx b0
     have x1:=cell_on hb8 hbx b1
     have e0:=cell_on hb8 hblt c0
     have e1:=cell_on hb8 hblt c1
     have zz:=hb8.size
     go_wp2_with fail
     go_quiet (fail)
     obtain ⟨u2,hvv,hb9,hg9⟩:=drewN_named (n:=nq) hb8 hg8
     rw [hvv]
     clear hvv
     have x0:=cell_on hb9 hbx b0
     have x1:=cell_on hb9 hbx b1
     have e0:=cell_on hb9 hblt c0
     have e1:=cell_on hb9 hblt c1
     have zz:=hb9.size
     go_wp2_with (at_builtin;refine wpList_append_lies _ rfl _ _ 34 rfl W1.heap.size 144 i0 (.agg #[.string .empty,.int .i64 0]) 2 24 Tryz.underlying34 hi hz0 hz1 hz2 rfl (by decide) _ _ _ rfl (hg9.alloc _) ⟨u2.heap.size,0,none⟩ 1 1 [.string l[k].1,.int .i64 l[k].2] rfl rfl (two_new u2 _ _ _) (by simp [Value.oneCell']) (by decide) (by unfold maxLen;first | omega | (simp only [List.length_append,List.length_cons,List.length_nil];omega)) (by first | omega | (simp only [List.length_append,List.length_cons,List.length_nil];omega)) (by simp;omega) _ rfl ?_;intro g' cap' wx hown' hgrow _ _)
     have hb10:=Gath.grown (W:=W1) (B:=W1.heap.size) (w:=u2.alloc (.cells #[.string l[k].1,.int .i64 l[k].2] 144)) (hg9.alloc _) (hb9.alloc hb9.size _) (by simp;omega) hgrow
     have hg10:=Gath.snoc hown'
     exact ⟨⟨k + 1,by omega,by go_num,_,_,(by first | exact hg10 | (have q:=hg10;simp only [List.length_append,List.length_cons,List.length_nil,Nat.zero_add] at q;exact q)),rfl,HI.out,hb10⟩,by simp [intOf];omega⟩
    ·have hA:Op.bytesLess l[k].1.toList m.1.toList=false:=by simpa using hA
     have hput:=setT_put hlt hinv hA
     have hle':=le_of_not hA
     have HPL:=pre_len hput
     simp only [List.length_append,List.length_cons,List.length_nil] at HPL
     go_wp2_with fail
     go_quiet (fail)
     obtain ⟨u1,hvv,hb8,hg8⟩:=drewN_named (n:=nq) hb hg
     rw [hvv]
     clear hvv
     have x0:=cell_on hb8 hbx b0
     have x1:=cell_on hb8 hbx b1
     have e0:=cell_on hb8 hblt c0
     have e1:=cell_on hb8 hblt c1
     have zz:=hb8.size
     go_wp2_with (at_builtin;refine wpList_append_lies _ rfl _ _ 34 rfl W1.heap.size 144 i0 (.agg #[.string .empty,.int .i64 0]) 2 24 Tryz.underlying34 hi hz0 hz1 hz2 rfl (by decide) _ _ _ rfl (hg8.alloc _) ⟨u1.heap.size,0,none⟩ 1 1 [.string m.1,.int .i64 m.2] rfl rfl (two_new u1 _ _ _) (by simp [Value.oneCell']) (by decide) (by unfold maxLen;first | omega | (simp only [List.length_append,List.length_cons,List.length_nil];omega)) (by first | omega | (simp only [List.length_append,List.length_cons,List.length_nil];omega)) (by simp;omega) _ rfl ?_;intro g' cap' wx hown' hgrow _ _)
     have hb7:=Gath.grown (W:=W1) (B:=W1.heap.size) (w:=u1.alloc (.cells #[.string m.1,.int .i64 m.2] 144)) (hg8.alloc _) (hb8.alloc hb8.size _) (by simp;omega) hgrow
     have hg7:=Gath.snoc hown'
     clear x0 x1 e0 e1
     have x0:=cell_on hb7 hbx b0
     have x1:=cell_on hb7 hbx b1
     have e0:=cell_on hb7 hblt c0
     have e1:=cell_on hb7 hblt c1
     by_cases he:l[k].1=m.1
     ·have hb':(l[k].1.toList == m.1.toList)=true:=toList_beq.2 he
      have HI:Hid _:=setT_true_eq hlt hput he
      clear he
      go_wp2_with fail
      go_quiet (fail)
      obtain ⟨u2,hvv,hb9,hg9⟩:=drewN_named (n:=nq) hb7 hg7
      rw [hvv]
      clear hvv
      have x0:=cell_on hb9 hbx b0
      have x1:=cell_on hb9 hbx b1
      have e0:=cell_on hb9 hblt c0
      have e1:=cell_on hb9 hblt c1
      have zz:=hb9.size
      go_wp2_with fail
      exact ⟨⟨k + 1,by omega,by go_num,_,_,hg9,rfl,HI.out,hb9⟩,by simp [intOf];omega⟩
     ·have hb':(l[k].1.toList == m.1.toList)=false:=toList_bne.2 he
      have HI:Hid _:=setT_true_ne hlt hput he
      clear he
      go_wp2_with fail
      go_quiet (fail)
      obtain ⟨u2,hvv,hb9,hg9⟩:=drewN_named (n:=nq) hb7 hg7
      rw [hvv]
      clear hvv
      have x0:=cell_on hb9 hbx b0
      have x1:=cell_on hb9 hbx b1
      have e0:=cell_on hb9 hblt c0
      have e1:=cell_on hb9 hblt c1
      have zz:=hb9.size
      go_wp2_with (at_builtin;refine wpList_append_lies _ rfl _ _ 34 rfl W1.heap.size 144 i0 (.agg #[.string .empty,.int .i64 0]) 2 24 Tryz.underlying34 hi hz0 hz1 hz2 rfl (by decide) _ _ _ rfl (hg9.alloc _) ⟨u2.heap.size,0,none⟩ 1 1 [.string l[k].1,.int .i64 l[k].2] rfl rfl (two_new u2 _ _ _) (by simp [Value.oneCell']) (by decide) (by unfold maxLen;first | omega | (simp only [List.length_append,List.length_cons,List.length_nil];omega)) (by first | omega | (simp only [List.length_append,List.length_cons,List.length_nil];omega)) (by simp;omega) _ rfl ?_;intro g' cap' wx hown' hgrow _ _)
      have hb10:=Gath.grown (W:=W1) (B:=W1.heap.size) (w:=u2.alloc (.cells #[.string l[k].1,.int .i64 l[k].2] 144)) (hg9.alloc _) (hb9.alloc hb9.size _) (by simp;omega) hgrow
      have hg10:=Gath.snoc hown'
      exact ⟨⟨k + 1,by omega,by go_num,_,_,(by first | exact hg10 | (have q:=hg10;simp only [List.length_append,List.length_cons,List.length_nil,Nat.zero_add] at q;exact q)),rfl,HI.out,hb10⟩,by simp [intOf];omega⟩
   ·go_wp2_with fail
    go_quiet (fail)
    obtain ⟨u1,hvv,hb8,hg8⟩:=drewN_named (n:=nq) hb hg
    rw [hvv]
    clear hvv
    have x0:=cell_on hb8 hbx b0
    have x1:=cell_on hb8 hbx b1
    have e0:=cell_on hb8 hblt c0
    have e1:=cell_on hb8 hblt c1
    have zz:=hb8.size
    by_cases he:l[k].1=m.1
    ·have hb':(l[k].1.toList == m.1.toList)=true:=toList_beq.2 he
     have HI:Hid _:=setT_true_eq hlt hinv he
     clear he
     go_wp2_with fail
     go_quiet (fail)
     obtain ⟨u2,hvv,hb9,hg9⟩:=drewN_named (n:=nq) hb8 hg8
     rw [hvv]
     clear hvv
     have x0:=cell_on hb9 hbx b0
     have x1:=cell_on hb9 hbx b1
     have e0:=cell_on hb9 hblt c0
     have e1:=cell_on hb9 hblt c1
     have zz:=hb9.size
     go_wp2_with fail
     exact ⟨⟨k + 1,by omega,by go_num,_,_,hg9,rfl,HI.out,hb9⟩,by simp [intOf];omega⟩
    ·have hb':(l[k].1.toList == m.1.toList)=false:=toList_bne.2 he
     have HI:Hid _:=setT_true_ne hlt hinv he
     clear he
     go_wp2_with fail
     go_quiet (fail)
     obtain ⟨u2,hvv,hb9,hg9⟩:=drewN_named (n:=nq) hb8 hg8
     rw [hvv]
     clear hvv
     have x0:=cell_on hb9 hbx b0
     have x1:=cell_on hb9 hbx b1
     have e0:=cell_on hb9 hblt c0
     have e1:=cell_on hb9 hblt c1
     have zz:=hb9.size
     go_wp2_with (at_builtin;refine wpList_append_lies _ rfl _ _ 34 rfl W1.heap.size 144 i0 (.agg #[.string .empty,.int .i64 0]) 2 24 Tryz.underlying34 hi hz0 hz1 hz2 rfl (by decide) _ _ _ rfl (hg9.alloc _) ⟨u2.heap.size,0,none⟩ 1 1 [.string l[k].1,.int .i64 l[k].2] rfl rfl (two_new u2 _ _ _) (by simp [Value.oneCell']) (by decide) (by unfold maxLen;first | omega | (simp only [List.length_append,List.length_cons,List.length_nil];omega)) (by first | omega | (simp only [List.length_append,List.length_cons,List.length_nil];omega)) (by simp;omega) _ rfl ?_;intro g' cap' wx hown' hgrow _ _)
     have hb10:=Gath.grown (W:=W1) (B:=W1.heap.size) (w:=u2.alloc (.cells #[.string l[k].1,.int .i64 l[k].2] 144)) (hg9.alloc _) (hb9.alloc hb9.size _) (by simp;omega) hgrow
     have hg10:=Gath.snoc hown'
     exact ⟨⟨k + 1,by omega,by go_num,_,_,(by first | exact hg10 | (have q:=hg10;simp only [List.length_append,List.length_cons,List.length_nil,Nat.zero_add] at q;exact q)),rfl,HI.out,hb10⟩,by simp [intOf];omega⟩
  ·cases p
   ·have HE:Hid _:=setT_end hlt hinv
    have x0:=cell_on hb hbx b0
    have x1:=cell_on hb hbx b1
    have zz:=hb.size
    go_wp2_with (at_builtin;refine wpList_append_lies _ rfl _ _ 34 rfl W1.heap.size 144 i0 (.agg #[.string .empty,.int .i64 0]) 2 24 Tryz.underlying34 hi hz0 hz1 hz2 rfl (by decide) _ _ _ rfl (hg.alloc _) ⟨wr.heap.size,0,none⟩ 1 1 [.string m.1,.int .i64 m.2] rfl rfl (two_new wr _ _ _) (by simp [Value.oneCell']) (by decide) (by unfold maxLen;first | omega | (simp only [List.length_append,List.length_cons,List.length_nil];omega)) (by first | omega | (simp only [List.length_append,List.length_cons,List.length_nil];omega)) (by simp;omega) _ rfl ?_;intro g' cap' wx hown' hgrow _ _)
    have hb10:=Gath.grown (W:=W1) (B:=W1.heap.size) (w:=wr.alloc (.cells #[.string m.1,.int .i64 m.2] 144)) (hg.alloc _) (hb.alloc hb.size _) (by simp;omega) hgrow
    have hg10:=Gath.snoc hown'
    go_ret
    exact ⟨⟨_,rfl,by rw [<- HE.out];exact hg10.lower (Nat.le_of_lt hbx)⟩,hba.trans (hb10.mono hba.size)⟩
   ·have HE:Hid _:=setT_end' hlt hinv
    go_wp2_with fail
    go_ret
    exact ⟨⟨_,rfl,by rw [<- HE.out];exact hg.lower (Nat.le_of_lt hbx)⟩,hba.trans (hb.mono hba.size)⟩
set_option maxHeartbeats 1600000 in
theorem specJoin_any (aa ab:Option Addr) (ca cb:Nat) (la lb:List (ByteArray×Int)) (w:World) (hla:la.length<=maxLen) (hlb:lb.length<=maxLen) (ha:Row w aa la) (hb:Row w ab lb)
  (hsa:∀ j,(h:j < la.length)->la[j].1.size<=maxLen) (hsb:∀ j,(h:j < lb.length)->lb[j].1.size<=maxLen) :
  Calls Tryz.prog 85 #[.slice aa la.length ca,.slice ab lb.length cb] w fun e w'=>(∃ v m ok,e=.returned (.tuple #[v,.bool ok])∧Gath w' w.heap.size v m∧IsJ la lb m ok)∧Below w.heap.size w w':=by
 go_enter Tryz.func85,Tryz.ntmps85
 go_wp2_with fail
 refine (specOk_b aa ca la _ hla ha hsa).mono ?_
 rintro e w1 ⟨⟨r,rfl,hr1⟩,hb1⟩
 cases r
 ·have hn:¬ StampP la:=fun h=>by simpa using hr1.2 h
  clear hr1
  go_wp2_with fail
  exact bodyPost_ret (v:=.tuple #[.slice none 0 0,.bool false]) (by simp [results,Tryz.results85,go_sem]) rfl ⟨⟨_,[],false,rfl,Gath.none _ _,.inl ⟨fun h=>hn h.1,rfl,rfl⟩⟩,hb1⟩
 have hya:StampP la:=hr1.1 rfl
 clear hr1
 go_wp2_with fail
 refine (specOk_b ab cb lb _ hlb (hb.below hb1) hsb).mono ?_
 rintro e w2 ⟨⟨r,rfl,hr2⟩,hb2⟩
 have hb12:Below w.heap.size w w2:=hb1.trans (hb2.mono hb1.size)
 cases r
 ·have hn:¬ StampP lb:=fun h=>by simpa using hr2.2 h
  clear hr2
  go_wp2_with fail
  exact bodyPost_ret (v:=.tuple #[.slice none 0 0,.bool false]) (by simp [results,Tryz.results85,go_sem]) rfl ⟨⟨_,[],false,rfl,Gath.none _ _,.inl ⟨fun h=>hn h.2,rfl,rfl⟩⟩,hb12⟩
 have hyb:StampP lb:=hr2.1 rfl
 clear hr2
 have sa:=stamp_sorted hya
 have sb:=stamp_sorted hyb
 have la12:=hya.1
 have lb12:=hyb.1
 go_wp2_with fail
 go_loopw [6,7] (fun out i wr=>∃ k:Nat,k<=la.length∧i=.int .i64 k∧Gath wr w.heap.size out (la.take k)∧Below w.heap.size w wr) (fun _ i _=>la.length - (intOf i).toNat)
 case atStart=>exact ⟨0,Nat.zero_le _,rfl,Gath.none _ _,hb12⟩
 case round=>
  obtain ⟨k,hk,rfl,hg,hbl⟩:=hrel
  by_cases hlt:k < la.length
  ·obtain ⟨b,ob,rfl,hblt,c0,c1⟩:=ha k hlt
   have e0:=cell_on hbl hblt c0
   have e1:=cell_on hbl hblt c1
   obtain ⟨ag,capg,rfl,hrow⟩:=hg.shape
   have hk1:(la.take k).length<=1048576:=by rw [List.length_take];omega
   have HS:=setR_snoc (take_low sa hlt)
   rw [<- List.take_succ_eq_append_getElem hlt] at HS
   have HS':Hid _:=HS
   clear HS
   generalize la.take k=o at *
   go_wp2_with (go_at_call 123;refine (l1Set_any _ _ o la[k] _ hk1 hrow).mono ?_;rintro e w3 ⟨⟨v,rfl,hg3⟩,hb3⟩)
   exact ⟨⟨k + 1,by omega,by go_num,by rw [<- HS'.out];exact hg3.lower hbl.size,hbl.trans (hb3.mono hbl.size)⟩,by simp [intOf];omega⟩
  ·have hg':Gath wr w.heap.size u6 la:=by rw [List.take_of_length_le (by omega)] at hg;exact hg
   clear hg
   go_wp2_with fail
   go_loopw [6,8] (fun out i wr=>∃ (k:Nat) (o:List (ByteArray×Int)),k<=lb.length∧i=.int .i64 k∧Gath wr w.heap.size out o∧o.length<=la.length + k∧JoinOf la (lb.take k) o∧Below w.heap.size w wr) (fun _ i _=>lb.length - (intOf i).toNat)
   case atStart=>exact ⟨0,la,Nat.zero_le _,rfl,hg',by omega,joinOf_start sa,hbl⟩
   case round=>
    obtain ⟨k,o,hk,rfl,hg,hol,hj,hbl⟩:=hrel
    by_cases hlt:k < lb.length
    ·obtain ⟨b,ob,rfl,hblt,c0,c1⟩:=hb k hlt
     have e0:=cell_on hbl hblt c0
     have e1:=cell_on hbl hblt c1
     have g1:b < wr.heap.size:=Nat.lt_of_lt_of_le hblt hbl.size
     obtain ⟨ag,capg,rfl,hrow⟩:=hg.shape
     have HRB:Hid (∀ n:Lat wr,Row n.w ag o):=fun n=>hrow.below n.h
     by_cases hc:getM o lb[k].1 < lb[k].2
     ·have HJ:Hid _:=joinOf_set sb hlt hj hc
      have HL:=setR_length (m:=lb[k]) (l:=o)
      go_wp2_with fail
      refine wp_region_lat (by kernel_rfl) (by kernel_rfl) ?_
      have hne:=Lat.some wr
      have q0:∀ n:Lat wr,n.w.cell? ⟨b,ob + k * 2,none⟩=some (.string lb[k].1):=fun n=>n.cell g1 e0
      have q1:∀ n:Lat wr,n.w.cell? ⟨b,ob + k * 2 + 1,none⟩=some (.int .i64 lb[k].2):=fun n=>n.cell g1 e1
      repeat (go_big_quiet_step ((go_at_call 124;exact Calls.lat_same (l1Get_any _ _ o _ _ (by unfold maxLen;omega) (HRB.out _)))))
      refine wpQuiet_nil ?_
      rintro _ ⟨nq,rfl⟩
      have e0:=q0 nq
      have e1:=q1 nq
      have B3:=hbl.trans (nq.h.mono hbl.size)
      go_wp2_with (go_at_call 123;refine (l1Set_any _ _ o lb[k] _ (by omega) (HRB.out nq)).mono ?_;rintro e w3 ⟨⟨v,rfl,hg3⟩,hb3⟩)
      exact ⟨⟨k + 1,_,by omega,by go_num,hg3.lower B3.size,by omega,HJ.out,B3.trans (hb3.mono B3.size)⟩,by simp [intOf];omega⟩
     ·have HJ:Hid _:=joinOf_keep sb hlt hj hc
      go_wp2_with fail
      refine wp_region_lat (by kernel_rfl) (by kernel_rfl) ?_
      have hne:=Lat.some wr
      have q0:∀ n:Lat wr,n.w.cell? ⟨b,ob + k * 2,none⟩=some (.string lb[k].1):=fun n=>n.cell g1 e0
      have q1:∀ n:Lat wr,n.w.cell? ⟨b,ob + k * 2 + 1,none⟩=some (.int .i64 lb[k].2):=fun n=>n.cell g1 e1
      repeat (go_big_quiet_step ((go_at_call 124;exact Calls.lat_same (l1Get_any _ _ o _ _ (by unfold maxLen;omega) (HRB.out _)))))
      refine wpQuiet_nil ?_
      rintro _ ⟨nq,rfl⟩
      go_wp2_with fail
      exact ⟨⟨k + 1,o,by omega,by go_num,hg.keep nq.h,by omega,HJ.out,hbl.trans (nq.h.mono hbl.size)⟩,by simp [intOf];omega⟩
    ·have hj':JoinOf la lb o:=by rw [List.take_of_length_le (by omega)] at hj;exact hj
     have HJ:Hid (JoinOf la lb o):=hj'
     clear hj hj'
     obtain ⟨ag,capg,rfl,hrow⟩:=hg.shape
     by_cases h12:12 < o.length
     ·go_wp2_with fail
      exact bodyPost_ret (v:=.tuple #[.slice none 0 0,.bool false]) (by simp [results,Tryz.results85,go_sem]) rfl ⟨⟨_,[],false,rfl,Gath.none _ _,.inr ⟨hya,hyb,o,HJ.out,.inr ⟨h12,rfl,rfl⟩⟩⟩,hbl⟩
     ·go_wp2_with fail
      exact bodyPost_ret (v:=.tuple #[.slice ag o.length capg,.bool true]) (by simp [results,Tryz.results85,go_sem]) rfl ⟨⟨_,o,true,rfl,hg,.inr ⟨hya,hyb,o,HJ.out,.inl ⟨by omega,rfl,rfl⟩⟩⟩,hbl⟩
end Go.Proofs.YtpfhegengmlkmacGreatDoor
namespace Go.Proofs.YtpfhegengmlkmacGreatDoor
open Go.RowKit Go.BigFrame
set_option maxRecDepth 100000
theorem RowS.drop {w:World} {b o:Nat} {l:List ByteArray} (h:RowS w (some ⟨b,o,none⟩) l) (k:Nat):RowS w (some ⟨b,o + k,none⟩) (l.drop k):=fun j hj=>by
 rw [List.length_drop] at hj
 obtain ⟨b',o',e,hb,c⟩:=h (k + j) (by omega)
 obtain ⟨rfl,rfl⟩:b=b'∧o=o':=by simpa using e
 refine ⟨b,o + k,rfl,hb, ?_⟩
 rw [List.getElem_drop,Nat.add_assoc]
 exact c
theorem rowS_nil (w:World) (a:Option Addr):RowS w a []:=fun j hj=>absurd hj (Nat.not_lt_zero j)
theorem idxFrom_lt (x:ByteArray):∀ (zs:List ByteArray) (i:Nat),Lib.idxFromS zs x i < (i:Int) + (zs.length:Int)∧-1<=Lib.idxFromS zs x i
 | [],i=>by simp [Lib.idxFromS];omega
 | z :: zs,i=>by
  have h:=idxFrom_lt x zs (i + 1)
  simp only [Lib.idxFromS,List.length_cons]
  split
  ·omega
  ·omega
theorem idx_lt (l:List ByteArray) (s:ByteArray):Lib.idxOfS l s < (l.length:Int)∨Lib.idxOfS l s=-1:=by
 have:=idxFrom_lt s l 0
 unfold Lib.idxOfS
 omega
def IsA (ws:List ByteArray) (m:List (ByteArray×Int)) (ok:Bool):Prop:=(ok=true∧AccW ws m)∨(ok=false∧∀ m',¬ AccW ws m')
theorem isW_acc {ws:List ByteArray} {m:List (ByteArray×Int)} {ok:Bool} (h0:ws≠[]) (h:IsW (ws.map bl) m ok):IsA ws m ok:=by
 rcases h with ⟨e,rfl,rfl⟩ | ⟨hne,⟨rfl,h1,h2,h3⟩ | ⟨rfl,rfl,h1⟩⟩
 ·exact .inl ⟨rfl,h0,.inl ⟨e,rfl⟩⟩
 ·exact .inl ⟨rfl,h0,.inr ⟨h1,h2⟩⟩
 ·refine .inr ⟨rfl,fun m' hA=>?_⟩
  rcases hA.2 with ⟨e,_⟩ | ⟨h2,h3⟩
  ·exact hne e
  ·have:=h1 m' h2 h3
   subst this
   have hl:=h2.length
   simp at hl
   exact h0 (List.length_eq_zero_iff.1 hl.symm)
theorem isW_fit {us:List (List UInt8)} {m:List (ByteArray×Int)} {ok:Bool} (h:IsW us m ok):StampP m:=by
 rcases h with ⟨e,rfl,rfl⟩ | ⟨hne,⟨rfl,h1,h2,h3⟩ | ⟨rfl,rfl,h1⟩⟩
 ·exact stampP_nil
 ·exact h2
 ·exact stampP_nil
structure Wds (w:World) (a:Option Addr) (cap:Nat) (ws:List ByteArray):Prop where
 row:RowS w a ws
 few:ws.length<=3001
 short:∀ u∈ws,u.size<=3000
 room:ws.length<=cap
 room2:cap<=maxLen
 free:∀ u∈ws,(32:UInt8)∉bl u
theorem Wds.below {w w':World} {a:Option Addr} {cap:Nat} {ws:List ByteArray} (h:Wds w a cap ws) (hb:Below w.heap.size w w'):Wds w' a cap ws:=⟨h.row.below hb,h.few,h.short,h.room,h.room2,h.free⟩
theorem twoP_low {r:List ByteArray} (h:Lib.idxOfS r slash < 1) (a b:List (ByteArray×Int)):¬ TwoP r a b:=fun ⟨k,e,h1,h2⟩=>by
 obtain rfl:k=0:=by omega
 exact h1.1 rfl
theorem twoP_high {r:List ByteArray} (h:(r.length:Int)<=Lib.idxOfS r slash + 1) (a b:List (ByteArray×Int)):¬ TwoP r a b:=fun ⟨k,e,h1,h2⟩=>by
 exact h2.1 (List.drop_eq_nil_iff.2 (by omega))
def TwoE (w':World) (r:List ByteArray) (e:Ending):Prop:=
 ∃ aa ca la ab cb lb ok,e=.returned (.tuple #[.slice aa (List.length la) ca,.slice ab (List.length lb) cb,.bool ok])∧((ok=true∧TwoP r la lb∧Row w' aa la∧Row w' ab lb)∨(ok=false∧∀ a b,¬ TwoP r a b))
set_option maxHeartbeats 1600000 in
theorem l5Two_any (a:Option Addr) (cap:Nat) (r:List ByteArray) (w:World) (hw:Wds w a cap r) :
  Calls Tryz.prog 153 #[.slice a r.length cap] w fun e w'=>TwoE w' r e∧Below w.heap.size w w':=by
 have hf:=hw.few
 have hcp:=hw.room
 have hcp2:=hw.room2
 unfold maxLen at hcp2
 have cA:=l5At_any a cap r slash w (by omega) hw.row
 unfold slash at cA
 go_enter Tryz.func153,Tryz.ntmps153
 go_wp2_with (go_at_call 150;refine cA.mono ?_)
 rintro e w1 ⟨rfl,b1⟩
 obtain ⟨i,hi⟩:∃ i,Lib.idxOfS r ⟨#[47]⟩=i:=⟨_,rfl⟩
 have HI:Hid (Lib.idxOfS r slash=i):=hi
 have hilt:i < 3001:=by
  have:=idx_lt r ⟨#[47]⟩
  rw [hi] at this
  omega
 rw [hi]
 clear hi cA
 by_cases h1:i < 1
 ·have HN:Hid (∀ a b,¬ TwoP r a b):=twoP_low (by rw [HI.out];exact h1)
  go_wp2_with fail
  exact bodyPost_ret (v:=.tuple #[.slice none 0 0,.slice none 0 0,.bool false]) (by simp [results,Tryz.results153,go_sem]) rfl ⟨⟨none,0,[],none,0,[],false,rfl,.inr ⟨rfl,HN.out⟩⟩,b1⟩
 obtain ⟨k,rfl⟩:∃ k:Nat,i=(k:Int):=⟨i.toNat,by omega⟩
 have h1k:1<=k:=by omega
 by_cases h2:r.length<=k + 1
 ·have HN:Hid (∀ a b,¬ TwoP r a b):=twoP_high (by rw [HI.out];omega)
  have h2':(r.length:Int)<=(k:Int) + 1:=by omega
  go_wp2_with fail
  exact bodyPost_ret (v:=.tuple #[.slice none 0 0,.slice none 0 0,.bool false]) (by simp [results,Tryz.results153,go_sem]) rfl ⟨⟨none,0,[],none,0,[],false,rfl,.inr ⟨rfl,HN.out⟩⟩,b1⟩
 have h2':¬ (r.length:Int)<=(k:Int) + 1:=by omega
 obtain ⟨b,o,rfl,hlt,c0⟩:=hw.row 0 (by omega)
 clear c0
 have hrow1:=(hw.row.below b1)
 have cM:Calls Tryz.prog 149 #[.slice (some ⟨b,o,none⟩) k cap] w1 fun e w'=>WE w' w1.heap.size ((r.take k).map bl) e∧Below w1.heap.size w1 w':=by
  have:=l1Marks_any (some ⟨b,o,none⟩) cap (r.take k) w1 (by rw [List.length_take];omega) (fun u hu=>by have:=hw.short u (List.mem_of_mem_take hu);omega) (hrow1.take k)
  rwa [List.length_take,Nat.min_eq_left (by omega)] at this
 go_wp2_with (go_at_call 149;refine cM.mono ?_)
 rintro e w2 ⟨⟨v1,m1,ok1,rfl,g1,hW1⟩,b2⟩
 obtain ⟨a1,c1,rfl,row1⟩:=g1.shape
 have B2:Below w.heap.size w w2:=b1.trans (b2.mono b1.size)
 have HA1:Hid (IsA (r.take k) m1 ok1):=isW_acc (fun e=>by have h:=congrArg List.length e;rw [List.length_take,Nat.min_eq_left (by omega)] at h;simp at h;omega) hW1
 have cN:Calls Tryz.prog 149 #[.slice (some ⟨b,o + (k + 1),none⟩) (r.length - (k + 1)) (cap - (k + 1))] w2 fun e w'=>WE w' w2.heap.size ((r.drop (k + 1)).map bl) e∧Below w2.heap.size w2 w':=by
  have:=l1Marks_any (some ⟨b,o + (k + 1),none⟩) (cap - (k + 1)) (r.drop (k + 1)) w2 (by rw [List.length_drop];omega) (fun u hu=>by have:=hw.short u (List.mem_of_mem_drop hu);omega) ((hrow1.below b2).drop (k + 1))
  rwa [List.length_drop] at this
 have hkc:k + 1 < cap:=by omega
 have hkc2:¬ cap - (k + 1)=0:=by omega
 clear hW1 cM
 go_wp2_with (go_at_call 149;refine cN.mono ?_)
 rintro e w3 ⟨⟨v2,m2,ok2,rfl,g2,hW2⟩,b3⟩
 obtain ⟨a2,c2,rfl,row2⟩:=g2.shape
 have B3:Below w.heap.size w w3:=B2.trans (b3.mono B2.size)
 have HA2:Hid (IsA (r.drop (k + 1)) m2 ok2):=isW_acc (fun e=>by have:=congrArg List.length e;rw [List.length_drop] at this;simp at this;omega) hW2
 have row1':=row1.below b3
 clear hW2 cN
 have HE:Hid (((ok1 && ok2)=true∧TwoP r m1 m2∧Row w3 a1 m1∧Row w3 a2 m2)∨((ok1 && ok2)=false∧∀ a b,¬ TwoP r a b)):=by
  rcases HA1.out with ⟨rfl,h1⟩ | ⟨rfl,h1⟩
  ·rcases HA2.out with ⟨rfl,h2⟩ | ⟨rfl,h2⟩
   ·exact .inl ⟨rfl,⟨k,HI.out,h1,h2⟩,row1',row2⟩
   ·refine .inr ⟨rfl,fun a b ⟨j,e,_,h⟩=>?_⟩
    obtain rfl:j=k:=by have:=HI.out;omega
    exact h2 _ h
  ·refine .inr ⟨rfl,fun a b ⟨j,e,h,_⟩=>?_⟩
   obtain rfl:j=k:=by have:=HI.out;omega
   exact h1 _ h
 cases ok1
 ·go_wp2_with fail
  exact bodyPost_ret (v:=.tuple #[.slice a1 m1.length c1,.slice a2 m2.length c2,.bool false]) (by simp [results,Tryz.results153,go_sem]) rfl ⟨⟨a1,c1,m1,a2,c2,m2,false,rfl,HE.out⟩,B3⟩
 ·go_wp2_with fail
  exact bodyPost_ret (v:=.tuple #[.slice a1 m1.length c1,.slice a2 m2.length c2,.bool ok2]) (by simp [results,Tryz.results153,go_sem]) rfl ⟨⟨a1,c1,m1,a2,c2,m2,ok2,rfl,HE.out⟩,B3⟩
def StmE (c:List UInt8) (r:List ByteArray) (e:Ending):Prop:=∃ s,e=.returned (.string s)∧((c=cOrder∧OrdT r (bl s))∨(c≠cOrder∧JoiT r (bl s)))
theorem stamp_size {m:List (ByteArray×Int)} (h:StampP m):∀ j,(hj:j < m.length)->m[j].1.size<=maxLen:=fun j hj=>by
 have:=(h.2.1 j hj).1.2.1
 unfold maxLen
 omega
theorem TwoP.stamps {r:List ByteArray} {a b:List (ByteArray×Int)} (h:TwoP r a b):StampP a∧StampP b:=by
 obtain ⟨k,_,h1,h2⟩:=h
 exact ⟨h1.stamp,h2.stamp⟩
set_option maxHeartbeats 1600000 in
theorem l5Stamps_any (a:Option Addr) (cap:Nat) (u:ByteArray) (r:List ByteArray) (w:World) (hw:Wds w a cap (u :: r)) :
  Calls Tryz.prog 107 #[.slice a (r.length + 1) cap] w fun e w'=>StmE (bl u) r e∧Below w.heap.size w w':=by
 have hf:=hw.few
 have hcp:=hw.room
 have hcp2:=hw.room2
 unfold maxLen at hcp2
 simp only [List.length_cons] at hf hcp
 obtain ⟨b,o,rfl,hlt,c0⟩:=hw.row 0 (by simp)
 have c0:w.cell? ⟨b,o,none⟩=some (.string u):=c0
 have hwd:∀ q cq,(q=some ⟨b,o + 1,none⟩∨r=[])->r.length<=cq->cq<=maxLen->Wds w q cq r:=fun q cq hq h1 h2=>by
  refine ⟨?_,by omega,fun x hx=>hw.short x (List.mem_cons_of_mem _ hx),h1,h2,fun x hx=>hw.free x (List.mem_cons_of_mem _ hx)⟩
  rcases hq with rfl | rfl
  ·exact hw.row.drop 1
  ·exact rowS_nil _ _
 have c2:∀ q cq,(q=some ⟨b,o + 1,none⟩∨r=[])->r.length<=cq->cq<=maxLen->Calls Tryz.prog 153 #[.slice q r.length cq] w fun e w'=>TwoE w' r e∧Below w.heap.size w w':=fun q cq hq h1 h2=>l5Two_any q cq r w (hwd q cq hq h1 h2)
 clear hwd
 by_cases h1:cap=1
 ·subst h1
  obtain rfl:r=[]:=List.length_eq_zero_iff.1 (by omega)
  have c3:=c2 (some ⟨b,o,none⟩) 0 (.inr rfl) (Nat.le_refl _) (Nat.zero_le _)
  have HQ:Hid (StmE (bl u) [] (.returned (.string ⟨#[63]⟩))):=by
   have hno:∀ a b,¬ TwoP [] a b:=fun a b ⟨k,e,h,_⟩=>h.1 (by simp)
   refine ⟨_,rfl, ?_⟩
   by_cases h:bl u=cOrder
   ·exact .inl ⟨h,.inr ⟨hno,rfl⟩⟩
   ·exact .inr ⟨h,.inr ⟨hno,rfl⟩⟩
  clear c2 hw hf hcp
  go_enter Tryz.func107,Tryz.ntmps107
  go_wp2_with (go_at_call 153;refine c3.mono ?_)
  rintro e w1 ⟨⟨aa,ca,la,ab,cb,lb,ok,rfl,hT⟩,b1⟩
  obtain rfl:ok=false:=by
   rcases hT with ⟨_,⟨k,e,h,_⟩,_⟩ | ⟨rfl,_⟩
   ·exact absurd (by simp) h.1
   ·rfl
  clear hT
  go_wp2_with fail
  go_ret
  exact ⟨HQ.out,b1⟩
 have h1':¬ cap - 1=0:=by omega
 have c3:=c2 (some ⟨b,o + 1,none⟩) (cap - 1) (.inl rfl) (by omega) (by unfold maxLen;omega)
 clear c2
 go_enter Tryz.func107,Tryz.ntmps107
 go_wp2_with (go_at_call 153;refine c3.mono ?_)
 rintro e w1 ⟨⟨aa,ca,la,ab,cb,lb,ok,rfl,hT⟩,b1⟩
 have d0:=cell_on b1 hlt c0
 clear c3
 rcases hT with ⟨rfl,hT,rA,rB⟩ | ⟨rfl,hno⟩
 ·have hsA:=hT.stamps.1
  have hsB:=hT.stamps.2
  have HT:Hid (TwoP r la lb):=hT
  have h12a:=hsA.1
  have h12b:=hsB.1
  by_cases hc:bl u=cOrder
  ·have hu:u=⟨#[111,114,100,101,114]⟩:=data_eq hc
   have hb':(u.toList == [111,114,100,101,114])=true:=by rw [hu,ByteArray.toList_eq];rfl
   have HC:Hid (bl u=cOrder):=hc
   have cO:=specOrder_any aa ab ca cb la lb w1 (by unfold maxLen;omega) (by unfold maxLen;omega) rA rB (stamp_size hsA) (stamp_size hsB)
   clear hT hc hu hw
   go_wp2_with (go_at_call 46;refine cO.mono ?_)
   rintro e w2 ⟨⟨v,rfl,hv⟩,b2⟩
   have HV:Hid (OrdT r (ordB v)):=.inl ⟨la,lb,HT.out,v,hv,rfl⟩
   have B2:Below w.heap.size w w2:=b1.trans (b2.mono b1.size)
   rcases hv.range hsA hsB with rfl | rfl | rfl | rfl
   all_goals
    clear hv cO
    go_wp2_with fail
    go_ret
    exact ⟨⟨_,rfl,.inl ⟨HC.out,HV.out⟩⟩,B2⟩
  ·have hu:u≠⟨#[111,114,100,101,114]⟩:=fun e=>hc (by rw [e];rfl)
   have hb':(u.toList == [111,114,100,101,114])=false:=by
    have h:=toList_bne.2 hu
    rwa [show (⟨#[111,114,100,101,114]⟩:ByteArray).toList=[111,114,100,101,114] from by rw [ByteArray.toList_eq]] at h
   have HC:Hid (bl u≠cOrder):=hc
   have cJ:=specJoin_any aa ab ca cb la lb w1 (by unfold maxLen;omega) (by unfold maxLen;omega) rA rB (stamp_size hsA) (stamp_size hsB)
   clear hT hc hu hw
   go_wp2_with (go_at_call 85;refine cJ.mono ?_)
   rintro e w2 ⟨⟨v,m,ok,rfl,hg,hj⟩,b2⟩
   have B2:Below w.heap.size w w2:=b1.trans (b2.mono b1.size)
   obtain ⟨am,cm,rfl,hrm⟩:=hg.shape
   have HJ:Hid (IsJ la lb m ok):=hj
   have hsm:=isJ_stamp hj
   have h12:=hsm.1
   clear hj cJ hg
   cases ok
   ·have HV:Hid (JoiT r tNo):=.inl ⟨la,lb,HT.out,m,false,HJ.out,.inl ⟨rfl,rfl⟩⟩
    go_wp2_with fail
    go_ret
    exact ⟨⟨_,rfl,.inr ⟨HC.out,HV.out⟩⟩,B2⟩
   ·have cT:=specText_any am cm m w2 (by unfold maxLen;omega) hrm (stamp_size hsm)
    go_wp2_with (go_at_call 151;refine cT.mono ?_)
    rintro e w3 ⟨⟨s,rfl,hs⟩,b3⟩
    have HV:Hid (JoiT r (bl s)):=.inl ⟨la,lb,HT.out,m,true,HJ.out,.inr ⟨rfl,s,hs,rfl⟩⟩
    clear hs cT
    go_wp2_with fail
    go_ret
    exact ⟨⟨_,rfl,.inr ⟨HC.out,HV.out⟩⟩,B2.trans (b3.mono B2.size)⟩
 ·have HQ:Hid (StmE (bl u) r (.returned (.string ⟨#[63]⟩))):=by
   refine ⟨_,rfl, ?_⟩
   by_cases h:bl u=cOrder
   ·exact .inl ⟨h,.inr ⟨hno,rfl⟩⟩
   ·exact .inr ⟨h,.inr ⟨hno,rfl⟩⟩
  clear hno hw
  go_wp2_with fail
  go_ret
  exact ⟨HQ.out,b1⟩
def stampS (m:List (ByteArray×Int)):ByteArray:=⟨(if m=[] then [45] else textB m).toArray⟩
open Classical in
theorem isTx_det {m:List (ByteArray×Int)} {s:ByteArray} (hs:StampP m) (h:IsTx m s):s=stampS m:=data_eq (by rw [h.1 hs];simp [stampS])
open Classical in
theorem stampS_tx {m:List (ByteArray×Int)} (hs:StampP m):IsTx m (stampS m):=⟨fun _=>by simp [stampS],fun h=>absurd hs h⟩
theorem stampS_size {m:List (ByteArray×Int)} (hs:StampP m):(stampS m).size<=276:=isTx_size (stampS_tx hs)
theorem specText_det (a:Option Addr) (cap:Nat) (m:List (ByteArray×Int)) (w:World) (hs:StampP m) (hr:Row w a m) :
  Calls Tryz.prog 151 #[.slice a m.length cap] w fun e w'=>e=.returned (.string (stampS m))∧Below w.heap.size w w':=
 (specText_any a cap m w (by have:=hs.1;unfold maxLen;omega) hr (stamp_size hs)).mono fun _ _ ⟨⟨_,he,ht⟩,hb⟩=>⟨by rw [he,isTx_det hs ht],hb⟩
end Go.Proofs.YtpfhegengmlkmacGreatDoor
