package ops

import (
	"transom/api"
	"transom/pack"
	"transom/schema"
	"transom/within"
)

// textCount is how many texts a change has ahead of its Type.
const textCount = 5

// mostType is the greatest Type that is written: it is above all kinds of values that there are, so that changes which will be refused can be written, too.
const mostType = 100

// PutChange tells the bytes of c: the first error, if c may not be.
func PutChange(c api.Change) (string, api.Errno) {
	if err := checkChange(c); err != api.OK {
		return "", err
	}
	table, err := putTable(c)
	if err != api.OK {
		return "", err
	}
	out := pack.Uint(uint64(c.Kind))
	texts := textsOf(c)
	for i := range textCount {
		out += pack.Text(texts[i])
	}
	out += pack.Uint(uint64(c.Type)) + pack.Uint(uint64(len(c.Names)))
	for _, name := range c.Names {
		out += pack.Text(name)
	}
	return out + table, api.OK
}

// ReadChange tells the change whose bytes s begins with, and what is behind them. Bytes that PutChange does not write are refused, so that a change has one form alone.
func ReadChange(s string) (api.Change, string, api.Errno) {
	c, rest, err := readFields(s)
	if err != api.OK {
		return api.Change{}, "", err
	}
	if c, rest, err = readTable(c, rest); err != api.OK {
		return api.Change{}, "", err
	}
	again, err := PutChange(c)
	if err != api.OK || again != s[:len(s)-len(rest)] {
		return api.Change{}, "", api.ErrForm
	}
	return c, rest, api.OK
}

// textsOf tells c's texts ahead of its Type, in the order in which they are written.
func textsOf(c api.Change) [textCount]string {
	return [textCount]string{c.Table, c.Other, c.To, c.Also, c.Name}
}

// withTexts tells c with those texts, which stand in the order in which they are written.
func withTexts(c api.Change, texts [textCount]string) api.Change {
	c.Table, c.Other, c.To, c.Also, c.Name = texts[0], texts[1], texts[2], texts[3], texts[4]
	return c
}

// checkChange tells whether all of c but for Def and Col may be written: OK, or what is wrong first.
func checkChange(c api.Change) api.Errno {
	if c.Kind < api.ChangeCreate || c.Kind > api.ChangeMerge || c.Type < 0 || c.Type > mostType || len(c.Names) > api.MaxCols {
		return api.ErrArg
	}
	texts := textsOf(c)
	for i := range textCount {
		if len(texts[i]) > api.MaxName {
			return api.ErrName
		}
	}
	for _, name := range c.Names {
		if len(name) > api.MaxName {
			return api.ErrName
		}
	}
	return api.OK
}

// putTable tells the bytes of the table that is written of c: none, if c's Kind has none.
func putTable(c api.Change) (string, api.Errno) {
	switch c.Kind {
	case api.ChangeCreate:
		return schema.Put(c.Def)
	case api.ChangeAdd:
		return schema.Put(around(c.Col))
	}
	return "", api.OK
}

// readTable tells c with the Def, or the Col, whose table putTable wrote at s's beginning, and what is behind it.
func readTable(c api.Change, s string) (api.Change, string, api.Errno) {
	if c.Kind != api.ChangeCreate && c.Kind != api.ChangeAdd {
		return c, s, api.OK
	}
	t, rest, err := schema.Read(s)
	if err != api.OK {
		return api.Change{}, "", err
	}
	if c.Kind == api.ChangeCreate {
		c.Def = t
	} else {
		// A table has a column at least. Whether this one stands in the table that is written of it, ReadChange asks.
		c.Col = t.Cols[len(t.Cols)-1]
	}
	return c, rest, api.OK
}

// around tells a table that c is the last column of, as a column alone has no bytes.
func around(c api.Col) api.Table {
	key := api.Col{Name: "k", Kind: api.KindInt}
	if c.Name == key.Name {
		key.Name = "j"
	}
	return api.Table{Name: "x", Keys: 1, Cols: []api.Col{key, c}}
}

// readFields tells what PutChange's bytes at s's beginning say but for Def and Col, and what is behind them. Whether its texts may be is not asked.
func readFields(s string) (api.Change, string, api.Errno) {
	var c api.Change
	var err api.Errno
	if c.Kind, s, err = within.Read(s, api.ChangeCreate, api.ChangeMerge, api.ErrArg); err != api.OK {
		return api.Change{}, "", err
	}
	var texts [textCount]string
	for i := range textCount {
		if texts[i], s, err = pack.ReadText(s); err != api.OK {
			return api.Change{}, "", err
		}
	}
	c = withTexts(c, texts)
	if c.Type, s, err = within.Read(s, 0, mostType, api.ErrArg); err != api.OK {
		return api.Change{}, "", err
	}
	if c.Names, s, err = readNames(s); err != api.OK {
		return api.Change{}, "", err
	}
	return c, s, api.OK
}

// readNames tells the names whose number, and they themselves, stand at s's beginning, and what is behind them.
func readNames(s string) ([]string, string, api.Errno) {
	count, s, err := within.Read(s, 0, api.MaxCols, api.ErrArg)
	if err != api.OK {
		return nil, "", err
	}
	names := make([]string, count)
	for i := range count {
		if names[i], s, err = pack.ReadText(s); err != api.OK {
			return nil, "", err
		}
	}
	return names, s, api.OK
}

// sameChange tells whether PutChange takes both a and b, and all that it writes of them is the same.
func sameChange(a, b api.Change) bool {
	left, err := PutChange(a)
	if err != api.OK {
		return false
	}
	right, err := PutChange(b)
	return err == api.OK && left == right
}
