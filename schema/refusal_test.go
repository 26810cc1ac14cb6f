package schema

import (
	"errors"
	"testing"

	"transom/api"
)

// Why a table is none is told by its number, and, in words, by the column's place.
func TestWhyNone(t *testing.T) {
	u := api.Table{Name: "t", Keys: 1, Cols: []api.Col{{Name: "k", Kind: api.KindInt}, {Name: "v", Kind: 6}}}
	why := whyNone(u)
	var inColumn colRefusal
	if !errors.As(why, &inColumn) || inColumn.at != 1 || why.Error() != "column 1: refused by error 5" {
		t.Errorf("a column of Kind 6: %v", why)
	}
	u.Cols[1].Kind, u.Cols[0].Null = api.KindText, true
	if why := whyNone(u); number(why) != api.ErrType || why.Error() != "column 0: refused by error 11" {
		t.Errorf("a key column that is Null: %v", why)
	}
	u.Keys = 0
	if why := whyNone(u); number(why) != api.ErrArg || errors.As(why, &inColumn) {
		t.Errorf("no Keys: %v", why)
	}
	if number(nil) != api.OK {
		t.Errorf("no reason: %d", number(nil))
	}
}
