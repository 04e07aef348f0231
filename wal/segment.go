package wal

import (
	"cmp"
	"slices"
	"strings"

	"weir/api"
	"weir/wire"
)

// bytesOfIndex is how many bytes a record's index has.
const bytesOfIndex = 8

// record is an entry in a segment, and where its bytes end in the file.
type record struct {
	index int
	entry api.Entry
	end   int
}

// segment is a file of records. Its number stands as digits: a foreign file's may be too great to be reckoned with.
type segment struct {
	digits string
	rows   []record
}

// size is how many bytes its records have.
func (s segment) size() int {
	if n := len(s.rows); n > 0 {
		return s.rows[n-1].end
	}
	return 0
}

// isBehind: are all of its entries behind an index?
func (s segment) isBehind(index int) bool {
	return len(s.rows) == 0 || s.rows[0].index > index
}

// isUpTo: are all of its entries up to an index?
func (s segment) isUpTo(index int) bool {
	n := len(s.rows)
	return n == 0 || s.rows[n-1].index <= index
}

// frame is a record's bytes.
func frame(index int, x api.Entry) ([]byte, api.Errno) {
	b := make([]byte, 0, bytesOfIndex)
	for shift := 56; shift >= 0; shift -= 8 {
		b = append(b, byte(uint64(index)>>shift))
	}
	return wire.Frame(append(b, wire.Entry(x)...))
}

// unframe is the record that a file's bytes begin with, and how many it has.
func unframe(b []byte) (index int, x api.Entry, used int, ok bool) {
	load, used, e := wire.Unframe(b)
	if e != api.OK || len(load) < bytesOfIndex {
		return 0, api.Entry{}, 0, false
	}
	n := uint64(0)
	for _, x := range load[:bytesOfIndex] {
		n = n<<8 | uint64(x)
	}
	x, _, e = wire.ReadEntry(load[bytesOfIndex:])
	return int(n), x, used, e == api.OK
}

// whole is the records at the beginning of a file's bytes that go on behind an index (0: the first one may be any).
func whole(b []byte, last int) []record {
	var rows []record
	at := 0
	for at < len(b) {
		index, x, used, ok := unframe(b[at:])
		if !ok || index < 1 || last > 0 && index != last+1 {
			break
		}
		at, last = at+used, index
		rows = append(rows, record{index, x, at})
	}
	return rows
}

// numbered is the digits of all segments of a log among a disk's names, the least number first.
func numbered(names []string, name string) []string {
	var l []string
	for _, n := range names {
		if digits, ok := strings.CutPrefix(n, name+"."); ok && isNumber(digits) {
			l = append(l, digits)
		}
	}
	slices.SortFunc(l, func(a, b string) int {
		return cmp.Or(cmp.Compare(len(a), len(b)), strings.Compare(a, b))
	})
	return l
}

// isNumber: is it a number as digits, without noughts ahead?
func isNumber(digits string) bool {
	for _, c := range []byte(digits) {
		if c < '0' || c > '9' {
			return false
		}
	}
	return digits == "0" || digits != "" && digits[0] != '0'
}

// after is the number that is 1 more.
func after(digits string) string {
	b := []byte(digits)
	for k := len(b) - 1; k >= 0; k-- {
		if b[k] < '9' {
			b[k]++
			return string(b)
		}
		b[k] = '0'
	}
	return "1" + string(b)
}

// twin is an entry that is the same, and shares nothing with this one.
func twin(x api.Entry) api.Entry {
	x.Data = slices.Clone(x.Data)
	return x
}
