package schema

import (
	"transom/api"
	"transom/keycode"
	"transom/pack"
	"transom/within"
)

// most is the greatest Keys and the greatest Kind that are read on: it is above all that may be, and far below what an int cannot hold.
const most = 100

// putCol tells the bytes of c, which must be a column.
func putCol(c api.Col) string {
	// There is no error to ask for: what is a column has a Default that may be.
	def, _ := keycode.Put(c.Default)
	return pack.Text(c.Name) + pack.Uint(uint64(c.Kind)) + putFlag(c.Null) + def
}

// putFlag tells a byte: 1, if on, else 0.
func putFlag(on bool) string {
	if on {
		return "\x01"
	}
	return "\x00"
}

// readTable tells what Put's bytes at s's beginning say, and what is behind them. Whether it may be a table is not asked.
func readTable(s string) (api.Table, string, api.Errno) {
	var t api.Table
	var err api.Errno
	if t.Name, s, err = pack.ReadText(s); err != api.OK {
		return api.Table{}, "", err
	}
	if t.Keys, s, err = within.Read(s, 0, most, api.ErrArg); err != api.OK {
		return api.Table{}, "", err
	}
	count, s, err := within.Read(s, 0, api.MaxCols, api.ErrLimit)
	if err != api.OK {
		return api.Table{}, "", err
	}
	t.Cols = make([]api.Col, count)
	for i := range t.Cols {
		if t.Cols[i], s, err = readCol(s); err != api.OK {
			return api.Table{}, "", err
		}
	}
	return t, s, api.OK
}

// readCol tells what putCol's bytes at s's beginning say, and what is behind them. Whether it may be a column is not asked.
func readCol(s string) (api.Col, string, api.Errno) {
	var c api.Col
	var err api.Errno
	if c.Name, s, err = pack.ReadText(s); err != api.OK {
		return api.Col{}, "", err
	}
	if c.Kind, s, err = within.Read(s, 0, most, api.ErrArg); err != api.OK {
		return api.Col{}, "", err
	}
	if c.Null, s, err = readFlag(s); err != api.OK {
		return api.Col{}, "", err
	}
	if c.Default, s, err = keycode.Read(s); err != api.OK {
		return api.Col{}, "", err
	}
	return c, s, api.OK
}

// readFlag tells what putFlag's byte at s's beginning says, and what is behind it.
func readFlag(s string) (bool, string, api.Errno) {
	if s == "" {
		return false, "", api.ErrShort
	}
	if s[0] > 1 {
		return false, "", api.ErrForm
	}
	return s[0] == 1, s[1:], api.OK
}
