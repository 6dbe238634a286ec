package byway

import (
	"bytes"
	"slices"
	"testing"
	"time"

	"byway/api"
)

func sameUpdate(a, b api.Update) bool {
	return slices.Equal(a.Gone, b.Gone) && slices.Equal(a.Nets, b.Nets) && slices.Equal(a.Path, b.Path) && slices.Equal(a.Marks, b.Marks) && a.Pref == b.Pref && a.Med == b.Med
}

// checkCodes wants these bytes of u, and u of these bytes.
func checkCodes(t *testing.T, u api.Update, want []byte) {
	t.Helper()
	if b, e := Encode(u); e != api.OK || !bytes.Equal(b, want) {
		t.Errorf("Encode(%+v) = %v, %d, want %v", u, b, e, want)
	}
	if got, e := Decode(want); e != api.OK || !sameUpdate(got, u) {
		t.Errorf("Decode(%v) = %+v, %d, want %+v", want, got, e, u)
	}
}

// checkNoMessage wants ErrRoute, and no bytes.
func checkNoMessage(t *testing.T, u api.Update) {
	t.Helper()
	if b, e := Encode(u); e != api.ErrRoute || len(b) > 0 {
		t.Errorf("Encode(%+v) = %v, %d", u, b, e)
	}
}

// checkDecode wants this error, and with an error no message.
func checkDecode(t *testing.T, b []byte, want api.Errno) {
	t.Helper()
	if u, e := Decode(b); e != want || want != api.OK && !sameUpdate(u, api.Update{}) {
		t.Errorf("Decode(%v) = %+v, %d, want %d", b, u, e, want)
	}
}

func sampleUpdate() api.Update {
	return api.Update{Gone: []api.Net{netOf(10, 0, 0, 0, 8)}, Nets: []api.Net{netOf(192, 168, 0, 0, 16)}, Path: []int{3, 4}, Pref: 100}
}

// netRow gives n nets, from the first one on.
func netRow(first, n int) []api.Net {
	list := []api.Net(nil)
	for i := range n {
		list = append(list, netOf(10, first+i, 0, 0, 16))
	}
	return list
}

// netBytes gives the bytes of netRow.
func netBytes(first, n int) []byte {
	b := []byte(nil)
	for i := range n {
		b = append(b, 16, 10, byte(first+i))
	}
	return b
}

// message gives the bytes of a message of these parts.
func message(gone, attributes, here []byte) []byte {
	count := func(b []byte) []byte { return []byte{byte(len(b) >> 8), byte(len(b))} }
	return slices.Concat(count(gone), gone, count(attributes), attributes, here)
}

var (
	pathPart = []byte{64, 2, 4, 2, 1, 0, 3}
	prefPart = []byte{64, 5, 4, 0, 0, 0, 1}
	medPart  = []byte{128, 4, 4, 0, 0, 0, 9}
	markPart = []byte{192, 8, 2, 0, 6}
	oneNet   = []byte{8, 10}
)

func TestCodes(t *testing.T) {
	checkCodes(t, sampleUpdate(), []byte{0, 2, 8, 10, 0, 16, 64, 2, 6, 2, 2, 0, 3, 0, 4, 64, 5, 4, 0, 0, 0, 100, 16, 192, 168})
	checkCodes(t, api.Update{}, []byte{0, 0, 0, 0})
	checkCodes(t, api.Update{Nets: []api.Net{{}}}, []byte{0, 0, 0, 10, 64, 2, 0, 64, 5, 4, 0, 0, 0, 0, 0})
	checkCodes(t, api.Update{Nets: []api.Net{{}}, Path: []int{65535, 256, 1}, Marks: []int{0, 258, 65535}, Pref: 0x01020304, Med: 0xfffefdfc}, []byte{
		0, 0, 0, 34, 64, 2, 8, 2, 3, 255, 255, 1, 0, 0, 1, 128, 4, 4, 255, 254, 253, 252, 64, 5, 4, 1, 2, 3, 4, 192, 8, 6, 0, 0, 1, 2, 255, 255, 0,
	})
	// The order of the nets is the message's own.
	checkCodes(t, api.Update{Gone: []api.Net{netOf(9, 0, 0, 0, 8), netOf(8, 0, 0, 0, 8), {}}}, []byte{0, 5, 8, 9, 8, 8, 0, 0, 0})
}

// TestNetCodes: nets of every length.
func TestNetCodes(t *testing.T) {
	for length := range 33 {
		addr := 0xfedcba99 >> (32 - length) << (32 - length)
		whole := []byte{byte(addr >> 24), byte(addr >> 16), byte(addr >> 8), byte(addr)}
		part := append([]byte{byte(length)}, whole[:(length+7)/8]...)
		n := []api.Net{{Addr: addr, Len: length}}
		checkCodes(t, api.Update{Gone: n}, message(part, nil, nil))
		checkCodes(t, api.Update{Nets: n, Path: []int{3}, Pref: 1}, message(nil, slices.Concat(pathPart, prefPart), part))
		if length%8 != 0 {
			for _, bit := range []byte{1, 1 << (7 - length%8)} {
				wrong := slices.Clone(part)
				wrong[len(wrong)-1] |= bit
				checkDecode(t, message(wrong, nil, nil), api.ErrNet)
				checkDecode(t, message(nil, slices.Concat(pathPart, prefPart), wrong), api.ErrNet)
			}
		}
	}
}

// TestBounds: as many nets, systems and marks as may be.
func TestBounds(t *testing.T) {
	both := slices.Concat(pathPart, prefPart)
	checkCodes(t, api.Update{Gone: netRow(0, 20)}, message(netBytes(0, 20), nil, nil))
	checkCodes(t, api.Update{Nets: netRow(0, 20), Path: []int{3}, Pref: 1}, message(nil, both, netBytes(0, 20)))
	checkCodes(t, api.Update{Gone: netRow(0, 7), Nets: netRow(7, 13), Path: []int{3}, Pref: 1}, message(netBytes(0, 7), both, netBytes(7, 13)))
	path, marks := []int(nil), []int(nil)
	pathValue, marksValue := []byte{64, 2, 26, 2, 12}, []byte{192, 8, 16}
	for i := range 12 {
		path, pathValue = append(path, 9-i/2), append(pathValue, 0, byte(9-i/2))
	}
	for i := range 8 {
		marks, marksValue = append(marks, i), append(marksValue, 0, byte(i))
	}
	checkCodes(t, api.Update{Nets: netRow(0, 1), Path: path, Pref: 1, Marks: marks}, message(nil, slices.Concat(pathValue, prefPart, marksValue), netBytes(0, 1)))
}

func TestNoMessage(t *testing.T) {
	for _, n := range []api.Net{{Len: 33}, {Len: -1}, {Len: 256}, {Addr: 1, Len: 31}, {Addr: -1, Len: 32}, {Addr: 1 << 32, Len: 32}, {Addr: 1 << 31}, {Addr: -1 << 63, Len: -1 << 63}} {
		checkNoMessage(t, api.Update{Gone: []api.Net{n}})
		checkNoMessage(t, api.Update{Nets: []api.Net{n}})
		checkNoMessage(t, api.Update{Gone: []api.Net{{}}, Nets: []api.Net{netOf(1, 0, 0, 0, 8), n}})
	}
	for _, u := range []api.Update{
		{Gone: netRow(0, 21)}, {Nets: netRow(0, 21)}, {Gone: netRow(0, 20), Nets: netRow(20, 1)}, {Gone: netRow(0, 1), Nets: netRow(1, 20)}, {Gone: netRow(0, 100000)},
		{Gone: []api.Net{{}, {}}}, {Nets: []api.Net{{}, {}}}, {Gone: []api.Net{{}}, Nets: []api.Net{{}}}, {Gone: append(netRow(0, 5), netRow(2, 1)...)}, {Gone: netRow(0, 5), Nets: netRow(4, 2)},
		{Path: []int{1}}, {Marks: []int{0}}, {Pref: 1}, {Med: 1}, {Gone: netRow(0, 1), Path: []int{1}}, {Gone: netRow(0, 1), Marks: []int{1}}, {Gone: netRow(0, 1), Pref: 1}, {Gone: netRow(0, 1), Med: 1}, {Pref: -1}, {Med: -1},
	} {
		checkNoMessage(t, u)
	}
	for _, change := range []func(u *api.Update){
		func(u *api.Update) { u.Path = []int{0} }, func(u *api.Update) { u.Path = []int{3, -1} }, func(u *api.Update) { u.Path = []int{65536} }, func(u *api.Update) { u.Path = slices.Repeat([]int{1}, 13) }, func(u *api.Update) { u.Path = slices.Repeat([]int{1}, 100000) },
		func(u *api.Update) { u.Marks = []int{-1} }, func(u *api.Update) { u.Marks = []int{65536} }, func(u *api.Update) { u.Marks = []int{2, 2} }, func(u *api.Update) { u.Marks = []int{2, 1} }, func(u *api.Update) { u.Marks = []int{1, 2, 3, 4, 5, 6, 7, 8, 9} },
		func(u *api.Update) { u.Pref = -1 }, func(u *api.Update) { u.Pref = 1 << 32 }, func(u *api.Update) { u.Med = -1 }, func(u *api.Update) { u.Med = 1 << 32 }, func(u *api.Update) { u.Pref = -1 << 63 },
	} {
		u := sampleUpdate()
		change(&u)
		checkNoMessage(t, u)
	}
}

func TestBodies(t *testing.T) {
	for _, b := range [][]byte{
		nil, {}, {0}, {0, 0}, {0, 0, 0}, {0, 1}, {0, 1, 0}, {0, 1, 0, 0}, {0, 2, 0, 0, 0}, {1, 0, 0, 0}, {255, 255, 0, 0}, {0, 0, 0, 1}, {0, 0, 1, 0}, {0, 0, 255, 255, 1},
		{0, 1, 8, 0, 0}, {0, 2, 9, 1, 0, 0}, {0, 3, 0, 8, 1, 0}, {0, 4, 8, 1, 32, 1, 0, 0}, {0, 4, 32, 1, 2, 3, 0, 0}, {0, 0, 0, 0, 8}, {0, 0, 0, 0, 32, 1, 2, 3}, {0, 0, 0, 0, 0, 1},
		// The bytes of a net that is none are none.
		{0, 2, 33, 1, 0, 0}, {0, 0, 0, 0, 33, 32, 1, 2, 3}, {0, 1, 33, 0, 0, 255, 16, 1},
		message(nil, []byte{64}, oneNet), message(nil, []byte{64, 5}, oneNet), message(nil, []byte{64, 5, 4, 0, 0, 0}, oneNet), message(nil, slices.Concat(pathPart, []byte{64}), oneNet), message(nil, slices.Concat(pathPart, prefPart, []byte{64, 9, 1}), oneNet), message(nil, []byte{64, 2, 255}, oneNet),
	} {
		checkDecode(t, b, api.ErrBody)
	}
}

// TestBodyFirst: of ErrBody and another error it is ErrBody, wherever they stand.
func TestBodyFirst(t *testing.T) {
	bad := [][]byte{{1, 2, 0}, {64, 3, 0}, {64, 2, 1, 2}, {128, 4, 4, 0, 0, 0, 0}}
	for _, a := range bad {
		checkDecode(t, message([]byte{8}, a, oneNet), api.ErrBody)
		checkDecode(t, message(nil, a, []byte{8}), api.ErrBody)
		checkDecode(t, message(nil, slices.Concat(a, []byte{64}), oneNet), api.ErrBody)
		checkDecode(t, message(nil, slices.Concat(a, []byte{64, 5, 1}), oneNet), api.ErrBody)
	}
	checkDecode(t, message([]byte{7, 1, 33, 8}, nil, nil), api.ErrBody)
	checkDecode(t, message([]byte{33}, nil, []byte{8}), api.ErrBody)
	checkDecode(t, message(nil, pathPart, []byte{8}), api.ErrBody)
	checkDecode(t, message(netBytes(0, 30), nil, []byte{8}), api.ErrBody)
	checkDecode(t, message(append(netBytes(0, 30), 8), nil, nil), api.ErrBody)
}

func TestFlags(t *testing.T) {
	values := map[byte][]byte{2: {2, 1, 0, 3}, 4: {0, 0, 0, 9}, 5: {0, 0, 0, 1}, 8: {0, 6}}
	flags := map[byte]byte{2: 64, 4: 128, 5: 64, 8: 192}
	for kind := range 256 {
		value, known := values[byte(kind)]
		for f := range 256 {
			want := api.ErrFlags
			if known && byte(f) == flags[byte(kind)] {
				want = api.ErrMissing
			}
			a := append([]byte{byte(f), byte(kind), byte(len(value))}, value...)
			checkDecode(t, message(nil, a, oneNet), want)
			checkDecode(t, message(nil, a, nil), want)
		}
	}
	whole := [][]byte{pathPart, medPart, prefPart, markPart}
	for i, a := range whole {
		for j, b := range whole {
			want := api.ErrFlags
			if i < j {
				want = api.ErrMissing
			}
			checkDecode(t, message(nil, slices.Concat(a, b), nil), want)
		}
	}
	checkDecode(t, message(nil, slices.Concat(pathPart, medPart, prefPart, markPart), oneNet), api.OK)
	checkDecode(t, message(nil, slices.Concat(pathPart, prefPart, medPart, markPart), oneNet), api.ErrFlags)
	checkDecode(t, message(nil, slices.Concat(pathPart, prefPart, markPart, []byte{64, 9, 0}), oneNet), api.ErrFlags)
}

func TestValues(t *testing.T) {
	attribute := func(flags, kind byte, value []byte) []byte {
		return append([]byte{flags, kind, byte(len(value))}, value...)
	}
	pairs := func(n int) []byte {
		b := []byte(nil)
		for i := range n {
			b = append(b, 0, byte(i+1))
		}
		return b
	}
	for _, c := range []struct {
		value []byte
		want  api.Errno
	}{
		{nil, api.OK}, {[]byte{2}, api.ErrValue}, {[]byte{2, 0}, api.ErrValue}, {[]byte{2, 1}, api.ErrValue}, {[]byte{2, 1, 5}, api.ErrValue}, {[]byte{2, 1, 0, 5}, api.OK}, {[]byte{2, 1, 255, 255}, api.OK}, {[]byte{2, 1, 0, 0}, api.ErrValue}, {[]byte{2, 2, 0, 5, 0, 0}, api.ErrValue},
		{[]byte{1, 1, 0, 5}, api.ErrValue}, {[]byte{3, 1, 0, 5}, api.ErrValue}, {[]byte{0, 1, 0, 5}, api.ErrValue}, {[]byte{2, 2, 0, 5}, api.ErrValue}, {[]byte{2, 0, 0, 5}, api.ErrValue}, {[]byte{2, 1, 0, 5, 0, 6}, api.ErrValue}, {[]byte{2, 1, 0, 5, 0}, api.ErrValue}, {[]byte{0, 0}, api.ErrValue},
		{append([]byte{2, 12}, pairs(12)...), api.OK}, {append([]byte{2, 13}, pairs(13)...), api.ErrValue}, {append([]byte{2, 12}, pairs(13)...), api.ErrValue}, {append([]byte{2, 126}, pairs(126)...), api.ErrValue}, {append([]byte{2, 2}, 0, 7, 0, 7), api.OK},
	} {
		checkDecode(t, message(nil, append(attribute(64, 2, c.value), prefPart...), oneNet), c.want)
	}
	for n := range 256 {
		want, some := api.ErrValue, make([]byte, n)
		if n == 4 {
			want = api.OK
		}
		checkDecode(t, message(nil, append(slices.Clone(pathPart), attribute(64, 5, some)...), oneNet), want)
		checkDecode(t, message(nil, slices.Concat(pathPart, attribute(128, 4, some), prefPart), oneNet), api.ErrValue)
		if n > 0 {
			some[n-1] = 1
			checkDecode(t, message(nil, slices.Concat(pathPart, attribute(128, 4, some), prefPart), oneNet), want)
			some[0], some[n-1] = 1, 0
			checkDecode(t, message(nil, slices.Concat(pathPart, attribute(128, 4, some), prefPart), oneNet), want)
		}
	}
	for _, c := range []struct {
		value []byte
		want  api.Errno
	}{
		{nil, api.ErrValue}, {[]byte{1}, api.ErrValue}, {[]byte{0, 0}, api.OK}, {[]byte{255, 255}, api.OK}, {[]byte{0, 1, 0}, api.ErrValue}, {[]byte{0, 1, 0, 1}, api.ErrValue}, {[]byte{0, 0, 0, 0}, api.ErrValue}, {[]byte{1, 0, 0, 255}, api.ErrValue}, {[]byte{0, 255, 1, 0}, api.OK}, {[]byte{0, 1, 0, 3, 0, 2}, api.ErrValue},
		{pairs(8), api.OK}, {pairs(9), api.ErrValue}, {pairs(127), api.ErrValue},
	} {
		checkDecode(t, message(nil, slices.Concat(pathPart, prefPart, attribute(192, 8, c.value)), oneNet), c.want)
	}
}

// TestByAttribute: the first attribute that may not be tells the error.
func TestByAttribute(t *testing.T) {
	flags, value := []byte{65, 2, 0}, []byte{64, 2, 1, 2}
	checkDecode(t, message(nil, []byte{65, 2, 1, 2}, oneNet), api.ErrFlags)
	checkDecode(t, message(nil, slices.Concat(value, []byte{64, 5, 0}), oneNet), api.ErrValue)
	checkDecode(t, message(nil, slices.Concat(value, []byte{1, 1, 0}), oneNet), api.ErrValue)
	checkDecode(t, message(nil, slices.Concat(flags, []byte{64, 5, 0}), oneNet), api.ErrFlags)
	checkDecode(t, message(nil, slices.Concat(pathPart, pathPart[:2], []byte{1, 2}), oneNet), api.ErrFlags)
	checkDecode(t, message(nil, slices.Concat(pathPart, prefPart, []byte{192, 8, 0}, flags), oneNet), api.ErrValue)
	checkDecode(t, message(nil, slices.Concat(pathPart, prefPart, []byte{192, 9, 0}, value), oneNet), api.ErrFlags)
	// What is wrong with an attribute goes ahead of one that is missing, and of the nets.
	checkDecode(t, message([]byte{33}, flags, nil), api.ErrFlags)
	checkDecode(t, message([]byte{33}, value, nil), api.ErrValue)
	checkDecode(t, message(nil, value, []byte{7, 1}), api.ErrValue)
	checkDecode(t, message([]byte{0, 0}, flags, netBytes(0, 30)), api.ErrFlags)
}

func TestMissing(t *testing.T) {
	for _, a := range [][]byte{nil, pathPart, prefPart, medPart, markPart, slices.Concat(pathPart, medPart, markPart), slices.Concat(medPart, prefPart, markPart), slices.Concat(medPart, markPart)} {
		for _, here := range [][]byte{oneNet, {33}, {7, 1}, {0, 0}, netBytes(0, 30)} {
			checkDecode(t, message(nil, a, here), api.ErrMissing)
			checkDecode(t, message([]byte{33}, a, here), api.ErrMissing)
		}
	}
	for _, a := range [][]byte{pathPart, prefPart, medPart, markPart, slices.Concat(pathPart, prefPart), slices.Concat(pathPart, medPart, prefPart, markPart)} {
		for _, gone := range [][]byte{nil, oneNet, {33}, {7, 1}, {0, 0}, netBytes(0, 30)} {
			checkDecode(t, message(gone, a, nil), api.ErrMissing)
		}
	}
}

func TestNoNets(t *testing.T) {
	both := slices.Concat(pathPart, prefPart)
	for _, part := range [][]byte{{33}, {255}, {33, 0}, {0, 33}, {33, 8, 10}, {7, 1}, {1, 192}, {31, 1, 2, 3, 5}, {9, 10, 64}, {0, 0}, {8, 10, 9, 10, 0, 8, 10}, netBytes(0, 21), netBytes(0, 22), append(netBytes(0, 20), 33)} {
		checkDecode(t, message(part, nil, nil), api.ErrNet)
		checkDecode(t, message(nil, both, part), api.ErrNet)
		checkDecode(t, message([]byte{16, 1, 2}, both, part), api.ErrNet)
		checkDecode(t, message(part, both, []byte{16, 1, 2}), api.ErrNet)
	}
	checkDecode(t, message(oneNet, both, oneNet), api.ErrNet)
	checkDecode(t, message(netBytes(0, 20), both, netBytes(20, 1)), api.ErrNet)
	checkDecode(t, message(netBytes(0, 1), both, netBytes(1, 20)), api.ErrNet)
	checkDecode(t, message(netBytes(0, 10), both, netBytes(9, 10)), api.ErrNet)
	checkDecode(t, message(netBytes(0, 10), both, netBytes(10, 10)), api.OK)
	// One address with two lengths is two nets.
	checkDecode(t, message([]byte{8, 10, 9, 10, 0}, both, []byte{10, 10, 0, 32, 10, 0, 0, 0}), api.OK)
}

// TestMuch: many bytes are read soon (P1).
func TestMuch(t *testing.T) {
	begun := time.Now()
	both := slices.Concat(pathPart, prefPart)
	checkDecode(t, message(make([]byte, 65535), both, make([]byte, 1<<22)), api.ErrNet)
	checkDecode(t, message(nil, both, bytes.Repeat([]byte{255}, 1<<22)), api.ErrNet)
	checkDecode(t, message(nil, make([]byte, 65535), oneNet), api.ErrFlags)
	checkDecode(t, make([]byte, 1<<22), api.ErrMissing)
	checkDecode(t, bytes.Repeat([]byte{255}, 1<<22), api.ErrBody)
	if took := time.Since(begun); took > 20*time.Second {
		t.Errorf("it took %v", took)
	}
}
