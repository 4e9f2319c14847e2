package tests

import (
	"bytes"
	"encoding/binary"
	"fmt"
	"hash/crc32"
	"math"
	"testing"

	"loop.example/s02533/impl"
)

// plainOp is the bytes of an operation, by chapter 12's list of them, whatever its
// numbers are.
func plainOp(op impl.Op) []byte {
	b := []byte{byte(op.Kind)}
	b = binary.LittleEndian.AppendUint64(b, uint64(op.A))
	b = binary.LittleEndian.AppendUint64(b, uint64(op.B))
	b = binary.LittleEndian.AppendUint16(b, uint16(op.Uid))
	b = binary.LittleEndian.AppendUint16(b, uint16(op.Gid))
	b = binary.LittleEndian.AppendUint16(b, uint16(len(op.Path)))
	b = append(b, op.Path...)
	b = binary.LittleEndian.AppendUint16(b, uint16(len(op.Path2)))
	b = append(b, op.Path2...)
	b = binary.LittleEndian.AppendUint32(b, uint32(len(op.Data)))
	return append(b, op.Data...)
}

// plainOpFault says whether an operation is none that a log may hold.
func plainOpFault(op impl.Op) bool {
	return op.Kind < 0 || op.Kind > 255 || op.Uid < 0 || op.Uid > 65535 || op.Gid < 0 || op.Gid > 65535 ||
		len(op.Path) > 512 || len(op.Path2) > 512 || len(op.Data) > 4096
}

// plainReadOp finds the only operation whose bytes b could be, and asks whether they
// are.
func plainReadOp(b []byte) (impl.Op, int) {
	rest := b
	next := func(n int) []byte {
		n = min(n, len(rest))
		part := rest[:n]
		rest = rest[n:]
		return part
	}
	numeral := func(n int) int {
		var wide [8]byte
		copy(wide[:], next(n))
		return int(binary.LittleEndian.Uint64(wide[:]))
	}
	op := impl.Op{Kind: numeral(1), A: numeral(8), B: numeral(8), Uid: numeral(2), Gid: numeral(2)}
	op.Path = string(next(numeral(2)))
	op.Path2 = string(next(numeral(2)))
	op.Data = bytes.Clone(next(numeral(4)))
	if plainOpFault(op) || !bytes.Equal(plainOp(op), b) {
		return impl.Op{}, impl.ErrCorrupt
	}
	return op, impl.OK
}

// sealedRecord is a record with these bytes as its operation's, its sum being right.
func sealedRecord(number uint64, body []byte) []byte {
	head := binary.LittleEndian.AppendUint64(nil, number)
	head = binary.LittleEndian.AppendUint32(head, uint32(len(body)))
	sum := crc32.ChecksumIEEE(append(bytes.Clone(head), body...))
	return append(binary.LittleEndian.AppendUint32(head, sum), body...)
}

func plainRecord(number int, op impl.Op) []byte { return sealedRecord(uint64(number), plainOp(op)) }

// plainScan is LogScan as its text says: the list grows as long as what stands behind
// it is the record of an operation with a number that follows.
func plainScan(log []byte) []impl.LogEntry {
	list := []impl.LogEntry{}
	for at := 0; len(log)-at >= 16; {
		wide := binary.LittleEndian.Uint64(log[at:])
		length := int(binary.LittleEndian.Uint32(log[at+8:]))
		if wide < 1 || wide > impl.MaxClock || length > len(log)-at-16 {
			break
		}
		number := int(wide)
		if len(list) > 0 && number-list[len(list)-1].Number != 1 {
			break
		}
		op, code := plainReadOp(log[at+16 : at+16+length])
		if code != impl.OK || !bytes.Equal(plainRecord(number, op), log[at:at+16+length]) {
			break
		}
		list = append(list, impl.LogEntry{Number: number, Op: op})
		at += 16 + length
	}
	return list
}

func plainDrop(log []byte, upto int) []byte {
	left := []byte{}
	for _, e := range plainScan(log) {
		if e.Number > upto {
			left = append(left, plainRecord(e.Number, e.Op)...)
		}
	}
	return left
}

func sameOp(a, b impl.Op) bool {
	data := bytes.Equal(a.Data, b.Data)
	return data && a.Kind == b.Kind && a.A == b.A && a.B == b.B && a.Uid == b.Uid && a.Gid == b.Gid && a.Path == b.Path && a.Path2 == b.Path2
}

func sameEntries(a, b []impl.LogEntry) bool {
	for k := range min(len(a), len(b)) {
		if a[k].Number != b[k].Number || !sameOp(a[k].Op, b[k].Op) {
			return false
		}
	}
	return len(a) == len(b)
}

func tellEntries(list []impl.LogEntry) string {
	text := fmt.Sprintf("%d entries", len(list))
	for k, e := range list {
		if k == 0 || k == len(list)-1 {
			text += fmt.Sprintf("; number %d: %s", e.Number, tellOp(e.Op))
		}
	}
	return text
}

// lent is an operation whose Data have memory behind their end.
func lent(op impl.Op) impl.Op {
	op.Data = withSpare(op.Data)
	return op
}

// laysOp asks EncodeOp for the code and, if that is OK, for the plain bytes, which must
// be read back.
func laysOp(t *testing.T, name string, op impl.Op, code int) []byte {
	t.Helper()
	handed := lent(op)
	got, gotCode := impl.EncodeOp(handed)
	want := []byte{}
	if code == impl.OK {
		want = plainOp(op)
	}
	if gotCode != code || !bytes.Equal(got, want) {
		t.Errorf("%s (%s): code %d, %d bytes, want code %d, %d bytes", name, tellOp(op), gotCode, len(got), code, len(want))
	}
	sharing([][]byte{got[:cap(got)]})
	if !sameOp(handed, op) || !spareIntact(handed.Data) {
		t.Errorf("%s: the operation has been changed", name)
	}
	if code == impl.OK {
		readsOp(t, name, want, impl.OK)
	}
	return want
}

// readsOp asks DecodeOp for the code and for what the plain rule reads.
func readsOp(t *testing.T, name string, b []byte, code int) {
	t.Helper()
	want, wantCode := plainReadOp(b)
	if code != wantCode {
		t.Fatalf("%s: the plain rule tells %d, want %d", name, wantCode, code)
	}
	handed := withSpare(b)
	got, gotCode := impl.DecodeOp(handed)
	if gotCode != code || !sameOp(got, want) {
		t.Errorf("%s: %s, code %d, want %s, code %d", name, tellOp(got), gotCode, tellOp(want), code)
	}
	sharing([][]byte{got.Data[:cap(got.Data)]})
	if !bytes.Equal(handed, b) || !spareIntact(handed) {
		t.Errorf("%s: the bytes have been changed", name)
	}
}

// records asks LogRecord for the code and, if that is OK, for the plain bytes.
func records(t *testing.T, name string, number int, op impl.Op, code int) []byte {
	t.Helper()
	handed := lent(op)
	got, gotCode := impl.LogRecord(number, handed)
	want := []byte{}
	if code == impl.OK {
		want = plainRecord(number, op)
	}
	if gotCode != code || !bytes.Equal(got, want) {
		t.Errorf("%s, number %d (%s): code %d, %d bytes, want code %d, %d bytes", name, number, tellOp(op), gotCode, len(got), code, len(want))
	}
	sharing([][]byte{got[:cap(got)]})
	if !sameOp(handed, op) || !spareIntact(handed.Data) {
		t.Errorf("%s: the operation has been changed", name)
	}
	return want
}

// uptos are numbers about which LogDrop is asked of a log with these entries.
func uptos(list []impl.LogEntry) []int {
	all := []int{math.MinInt, -1, 0, 1, impl.MaxClock, impl.MaxClock + 1, math.MaxInt}
	for k, e := range list {
		if k < 3 || k > len(list)-3 {
			all = append(all, e.Number-1, e.Number, e.Number+1, -e.Number)
		}
	}
	return all
}

// scans asks LogScan for what the plain rule reads, which must be as many entries as
// told, and LogDrop for those above all kinds of numbers.
func scans(t *testing.T, name string, log []byte, many int) []impl.LogEntry {
	t.Helper()
	want := plainScan(log)
	if len(want) != many {
		t.Fatalf("%s: the plain rule reads %d entries, want %d", name, len(want), many)
	}
	handed := withSpare(log)
	got := impl.LogScan(handed)
	if !sameEntries(got, want) {
		t.Errorf("%s: %s, want %s", name, tellEntries(got), tellEntries(want))
	}
	lists := [][]byte{}
	for _, e := range got {
		lists = append(lists, e.Op.Data[:cap(e.Op.Data)])
	}
	if sharing(lists) {
		t.Errorf("%s: two entries share memory", name)
	}
	for _, upto := range uptos(want) {
		left := impl.LogDrop(handed, upto)
		if !bytes.Equal(left, plainDrop(log, upto)) {
			t.Errorf("%s, up to %d: %d bytes, want %d", name, upto, len(left), len(plainDrop(log, upto)))
		}
		sharing([][]byte{left[:cap(left)]})
	}
	if !bytes.Equal(handed, log) || !spareIntact(handed) {
		t.Errorf("%s: the log has been changed", name)
	}
	return want
}
