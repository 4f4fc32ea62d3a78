/- Texts of this claim. -/
import Derived.Test.YtpfhegengmlkmabGreatDoorZu11
import Derived.Test.YtpfhegengmlkmabGreatDoorZu14
namespace Go.Proofs.YtpfhegengmlkmabGreatDoor
open Go.RowKit Go.BigFrame
theorem Tryz.infoZ:(Tryz.prog.info? 3).map (fun i=>(i.zero,i.size,i.bytes))=some (some (.int .i64 0),1,8):=by kernel_rfl
end Go.Proofs.YtpfhegengmlkmabGreatDoor
namespace Go.Proofs.YtpfhegengmlkmabGreatDoor
open Go.RowKit Go.BigFrame
set_option maxRecDepth 100000
def qV (w:World)(B:Nat)(a:Option Addr)(c:Nat)(m:List (ByteArray×Int)):Prop:=m.length<=c/\(m=[]∨∃g,a=some ⟨g,0,none⟩/\B<=g/\Own w g m)
theorem qV.row {w:World}{B c:Nat}{a:Option Addr}{m:List (ByteArray×Int)}(h:qV w B a c m):Row w a m:=by
 rcases h.2 with rfl|⟨g,rfl,_,ho⟩
 ·exact fun k hk=>absurd hk (Nat.not_lt_zero k)
 ·exact ho.row
theorem qV.isSl {w:World}{B c:Nat}{a:Option Addr}{m:List (ByteArray×Int)}(h:qV w B a c m):lN w (.slice a m.length c) m:=⟨a,c,rfl,h.1,h.row⟩
theorem qV.keep {w w':World}{B c:Nat}{a:Option Addr}{m:List (ByteArray×Int)}(h:qV w B a c m)(hb:Below w.heap.size w w'):qV w' B a c m:=⟨h.1,h.2.imp id fun⟨g,e,h1,ho⟩=>⟨g,e,h1,ho.below hb⟩⟩
theorem qV.but {w w':World}{R B c:Nat}{a:Option Addr}{m:List (ByteArray×Int)}(h:qV w B a c m)(hb:But R w w')(hR:R<B):qV w' B a c m:=⟨h.1,h.2.imp id fun⟨g,e,h1,ho⟩=>⟨g,e,h1,hb.own ho (by omega)⟩⟩
theorem qV.lower {w:World}{B B' c:Nat}{a:Option Addr}{m:List (ByteArray×Int)}(h:qV w B a c m)(hB:B'<=B):qV w B' a c m:=⟨h.1,h.2.imp id fun⟨g,e,h1,ho⟩=>⟨g,e,Nat.le_trans hB h1,ho⟩⟩
theorem I4 {w:World}{B e size n b:Nat}{v:Value}{xs:List Value}{l:List (ByteArray×Int)}(h:w.ownsRow B e size v n xs)(ho:Own w b l)(hne:54≠e):some b≠v.ownBlock:=by
 obtain⟨m,f,hr,_⟩:=ho
 exact fE h hr hne
theorem qV.grown {w w':World}{B B2 e size n c:Nat}{v:Value}{xs:List Value}{a:Option Addr}{m:List (ByteArray×Int)}(h:qV w B a c m)(ho:w.ownsRow B2 e size v n xs)(hne:54≠e)(hg:w.grownBy w' v.ownBlock):qV w' B a c m:=
 ⟨h.1,h.2.imp id fun⟨g,e',h1,hw⟩=>⟨g,e',h1,hw.grown hg (I4 ho hw hne)⟩⟩
theorem az.slB {w:World}{B:Nat}{v:Value}{m:List (ByteArray×Int)}(h:az w B v m):∃a c,v=.slice a m.length c/\qV w B a c m:=by
 rcases h.form with⟨hv,rfl⟩|⟨g,cap,rfl,hB,ho⟩
 ·exact⟨_,_,hv,Nat.le_refl _,.inl rfl⟩
 ·obtain⟨h1,h2,h3⟩:=yf h
  exact⟨_,_,rfl,h2,.inr ⟨g,rfl,h1,h3⟩⟩
end Go.Proofs.YtpfhegengmlkmabGreatDoor
