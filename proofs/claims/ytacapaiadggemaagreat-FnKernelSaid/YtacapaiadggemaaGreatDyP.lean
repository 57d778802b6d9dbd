import Derived.Test.YtacapaiadggemaaGreatDyB
import Derived.Test.YtacapaiadggemaaGreatImpR
namespace Go.Proofs.YtacapaiadggemaaGreat
open Go.RowKit
set_option linter.unusedVariables false
namespace Pl
def takeD (x:Int) (n TP W t:Nat) (db:List Int):List Int :=
 if x<0 then List.replicate ((W-t) * TP) 0++(db.drop ((n-t) * TP)).take (n * TP-(n-t) * TP) else db.take (t * TP)++List.replicate ((W-t) * TP) 0
def takeM (sa da sb db:List Int):Int × List Int × List Int :=
 if sa.length=0 then
  (if fitsB (max (da.getD 0 0) (-da.getD 0 0)::(axesS sb db).tail)=true then
   (0,max (da.getD 0 0) (-da.getD 0 0)::(axesS sb db).tail,takeD (da.getD 0 0) ((axesS sb db).getD 0 0).toNat (prodP (axesS sb db).tail).toNat (max (da.getD 0 0) (-da.getD 0 0)).toNat (gone (da.getD 0 0) ((axesS sb db).getD 0 0)).toNat db)
  else (6,[],[]))
 else (2,[],[])
end Pl
end Go.Proofs.YtacapaiadggemaaGreat
