package schema

import (
	"errors"
	"strconv"

	"transom/api"
	"transom/names"
	"transom/values"
)

// refusal is why a table, or a column, is none: an error's number.
type refusal struct {
	errno api.Errno
}

// Error tells the number in words.
func (r refusal) Error() string {
	return "refused by error " + strconv.Itoa(int(r.errno))
}

// colRefusal is why a table is none where the fault is one of its columns': that column's place, and what is wrong with it.
type colRefusal struct {
	at  int
	why error
}

// Error tells the column's place, and why it is none.
func (r colRefusal) Error() string {
	return "column " + strconv.Itoa(r.at) + ": " + r.why.Error()
}

// Unwrap tells what is wrong with the column itself, so that its number is found behind the place.
func (r colRefusal) Unwrap() error {
	return r.why
}

// number tells the error's number of why, however deep it is wrapped: OK, if there is no reason.
func number(why error) api.Errno {
	var r refusal
	if errors.As(why, &r) {
		return r.errno
	}
	return api.OK
}

// whyNoCol tells why c is no column: nil, if it is one.
func whyNoCol(c api.Col) error {
	if err := names.Check(c.Name); err != api.OK {
		return refusal{err}
	}
	// Null is a kind of values, but a column's values are of a kind beside it.
	if c.Kind < api.KindBool || c.Kind > api.KindText {
		return refusal{api.ErrKind}
	}
	if err := values.Check(c.Default); err != api.OK {
		return refusal{err}
	}
	if c.Default.Kind != api.KindNull && c.Default.Kind != c.Kind {
		return refusal{api.ErrType}
	}
	return nil
}

// whyNone tells why t is no table: nil, if it is one.
func whyNone(t api.Table) error {
	if err := names.Check(t.Name); err != api.OK {
		return refusal{err}
	}
	if len(t.Cols) < 1 || len(t.Cols) > api.MaxCols {
		return refusal{api.ErrLimit}
	}
	if t.Keys < 1 || t.Keys > api.MaxKeys || t.Keys > len(t.Cols) {
		return refusal{api.ErrArg}
	}
	for i, c := range t.Cols {
		if why := whyNoCol(c); why != nil {
			return colRefusal{i, why}
		}
	}
	if !names.Unlike(colNames(t)) {
		return refusal{api.ErrTwice}
	}
	for i, c := range t.Cols[:t.Keys] {
		if c.Null {
			return colRefusal{i, refusal{api.ErrType}}
		}
	}
	return nil
}
