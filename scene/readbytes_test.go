package scene

import (
	"encoding/binary"
	"math"
	"strings"
	"testing"

	"scenes/api"
	"scenes/layout"
)

// checkBytes: if they are taken, just these are what the scene is written as.
func checkBytes(t *testing.T, l layout.Layout, bytes string) bool {
	t.Helper()
	s, ok := FromBytes(bytes, l)
	if !ok && s != nil {
		t.Fatalf("FromBytes(%q), no scene: %v", bytes, s)
	}
	if ok {
		wantWithin(t, l, s)
		if got := s.Bytes(l); got != bytes {
			t.Fatalf("FromBytes(%q), written again: %q", bytes, got)
		}
	}
	return ok
}

func TestWrongBytes(t *testing.T) {
	for _, bytes := range []string{
		// how they begin and end
		"", "S", "SC", "SC1", "SC2\x00", "sc1\x00", " SC1\x00", "SC1\x00\x00", "SC1\x00SC1\x00", "SC1\x01\x00\x01\x00\x00", "SC1\x01\x00\x01\x00\x02\x01\x00", "scene\nend\n",
		// how many entities
		"SC1\x15\x00\x15" + strings.Repeat("\x00", 21), "SC1\x80\x01", "SC1\xff\x7f", "SC1\x01", "SC1\x01\x00", "SC1\x01\x00\x01", "SC1\x02\x00\x01\x00",
		// counts in more bytes than need be, or beyond all bounds
		"SC1\x80\x00", "SC1\x80\x80\x00", "SC1\x81\x00\x00\x01\x00", "SC1\x80", "SC1\xff\xff\xff\xff\xff\xff\xff\xff\xff\x01", "SC1\xff\xff\xff\xff\xff\xff\xff\xff\xff\x02",
		"SC1\x80\x80\x80\x80\x80\x80\x80\x80\x80\x02", "SC1\x80\x80\x80\x80\x80\x80\x80\x80\x80\x80\x01", "SC1\x80\x80\x80\x80\x80\x80\x80\x80\x80\x80\x00", "SC1" + strings.Repeat("\x80", 1<<16) + "\x00", "SC1" + strings.Repeat("\xff", 1<<16),
		"SC1\x01\x80\x00\x01\x00", "SC1\x01\x00\x81\x00\x00", "SC1\x01\x00\x01\x80\x00", "SC1\x01\x01\x01\x00\x86\x00\x09", "SC1\x01\x04\x01\x00\x80\x00",
		// sums
		"SC1\x01\x10\x01\x00", "SC1\x01\x20\x01\x00", "SC1\x01\x80\x01\x01\x00", "SC1\x02\x02\x01\x00\x00\x01\x01", "SC1\x02\x02\x01\x00\x02\x01\x01", "SC1\x02\x00\x01\x00\x00\x01\x01",
		"SC1\x01\xff\xff\xff\xff\xff\xff\xff\xff\xff\x01\x01\x00", "SC1\x01\x80\x80\x80\x80\x80\x80\x80\x80\x80\x01\x01\x00",
		// how many have them
		"SC1\x01\x00\x00", "SC1\x01\x00\x00\x02\x01\x00", "SC1\x01\x00\x02\x00\x00", "SC1\x02\x00\x03\x00\x00\x00", "SC1\x03\x00\x02\x00\x00\x02\x02\x01\x00", "SC1\x01\x00\xff\xff\xff\xff\xff\xff\xff\xff\xff\x01\x00",
		// who they are
		"SC1\x01\x00\x01\x01", "SC1\x02\x00\x02\x00\x01", "SC1\x02\x00\x02\x01\x00", "SC1\x02\x00\x01\x00\x02\x01\x00", "SC1\x02\x00\x01\x01\x02\x01\x01", "SC1\x01\x00\x01\x7f", "SC1\x02\x00\x02\x00\xff\xff\xff\xff\xff\xff\xff\xff\xff\x01",
		"SC1\x03\x00\x02\x00\x01\x02\x01\x02", "SC1\x02\x00\x02\x00\xfe\xff\xff\xff\xff\xff\xff\xff\xff\x01",
		// values
		"SC1\x01\x01\x01\x00", "SC1\x01\x01\x01\x00\x06", "SC1\x01\x01\x01\x00\x06\x06\x06", "SC1\x01\x01\x01\x00\x06\xff\xff\xff\xff\xff\xff\xff\xff\xff\x02", "SC1\x01\x04\x01\x00", "SC1\x01\x04\x01\x00\x02",
		"SC1\x01\x04\x01\x00\xff\xff\xff\xff\xff\xff\xff\xff\xff\x01", "SC1\x02\x04\x02\x00\x00\x03\x00", "SC1\x02\x04\x02\x00\x00\x00\x03",
		"SC1\x01\x08\x01\x00\x02\x00\x00\x00", "SC1\x01\x08\x01\x00\x80\x00\x00\x00", "SC1\x01\x08\x01\x00\x00\x01\x00\x00", "SC1\x01\x08\x01\x00\x00\x0dabcdefghijklm\x00\x00", "SC1\x01\x08\x01\x00\x00\x0cabcdefghijk",
		"SC1\x01\x08\x01\x00\x00\xff\xff\xff\xff\xff\xff\xff\xff\xff\x01a\x00\x00", "SC1\x01\x08\x01\x00\x00\x00\x05\x00\x00\x00\x00\x00\x00", "SC1\x01\x08\x01\x00\x00\x00\x02\x00", "SC1\x01\x08\x01\x00\x00\x00\x00\x02",
		"SC1\x01\x08\x01\x00\x00\x00\xff\xff\xff\xff\xff\xff\xff\xff\xff\x01\x00", "SC1\x01\x08\x01\x00\x00\x00\x01\x80\x00\x00",
	} {
		if checkBytes(t, example, bytes) {
			t.Errorf("FromBytes(%q) is taken", bytes)
		}
	}
}

// TestCountsAsBytes: each is taken in just as many bytes as it needs.
func TestCountsAsBytes(t *testing.T) {
	for _, n := range someNumbers() {
		packed := string(binary.AppendVarint(nil, int64(n)))
		longer := packed[:len(packed)-1] + string([]byte{packed[len(packed)-1] + 128, 0})
		if s, ok := FromBytes("SC1\x01\x01\x01\x00"+packed, ofOne(api.Int)); !ok || s[0].Values[0][0].N != n {
			t.Errorf("the number %d: %v, %v", n, s, ok)
		}
		for _, wrong := range []string{longer, packed[:len(packed)-1], packed + "\x00"} {
			if checkBytes(t, ofOne(api.Int), "SC1\x01\x01\x01\x00"+wrong) {
				t.Errorf("the number %d as %x is taken", n, wrong)
			}
		}
	}
}

// TestCountsBeyondBounds: none of them wraps round to one within.
func TestCountsBeyondBounds(t *testing.T) {
	for _, count := range []uint64{2, 3, 127, 128, 256, 1 << 31, 1 << 32, 1<<32 + 1, 1 << 62, math.MaxInt64, 1 << 63, 1<<63 + 1, math.MaxUint64 - 1, math.MaxUint64} {
		c := string(binary.AppendUvarint(nil, count))
		for _, bytes := range []string{c, "\x01" + c, "\x01\x00" + c, "\x01\x00\x01" + c, "\x01\x01\x01\x00" + c} {
			for _, rest := range []string{"", "\x00", "\x01", "\x00\x01\x00", "\x01\x00", "\x01\x00\x00"} {
				if checkBytes(t, ofOne(api.Bool), "SC1"+bytes+rest) && count > 2 {
					t.Errorf("the count %d is taken: %q", count, bytes+rest)
				}
			}
		}
	}
}

// TestBytesThatAreNearlyAScene: a byte is another, is missing, comes twice or
// besides.
func TestBytesThatAreNearlyAScene(t *testing.T) {
	for _, base := range []struct {
		layout layout.Layout
		scene  Scene
	}{{example, some()}, {named(), someNamed()}} {
		scenes := 0
		check := func(bytes string) {
			t.Helper()
			if checkBytes(t, base.layout, bytes) {
				scenes++
			}
		}
		bytes := base.scene.Bytes(base.layout)
		for i := range len(bytes) + 1 {
			for j := i; j <= len(bytes); j++ {
				check(bytes[:i] + bytes[j:])
			}
			for b := range 256 {
				check(bytes[:i] + string([]byte{byte(b)}) + bytes[i:])
				if i < len(bytes) {
					check(bytes[:i] + string([]byte{byte(b)}) + bytes[i+1:])
				}
			}
			if i < len(bytes) && checkBytes(t, base.layout, bytes[:i]) {
				t.Errorf("%q, cut off, is taken", bytes[:i])
			}
		}
		if scenes < 100 {
			t.Errorf("only %d scenes were among them", scenes)
		}
	}
}

// smallScenes: all of at most three entities of a mark and a reference.
func smallScenes(do func(Scene)) {
	for entities := range 4 {
		var kinds []Entity
		for _, e := range []Entity{none(), none().with(0)} {
			kinds = append(kinds, e, e.with(1, toNone()))
			for number := range entities {
				kinds = append(kinds, e.with(1, to(number)))
			}
		}
		var grow func(s Scene)
		grow = func(s Scene) {
			if len(s) == entities {
				do(s)
				return
			}
			for _, e := range kinds {
				grow(append(s[:len(s):len(s)], e))
			}
		}
		grow(nil)
	}
}

// TestAllFewBytes: of all that are few those are taken that a scene is written
// as, and no others.
func TestAllFewBytes(t *testing.T) {
	const few = 8
	l := layout.Layout{{Name: "a"}, {Name: "b", Fields: []layout.Field{{Name: "r", Kind: api.Ref}}}}
	written := map[string]int{}
	wanted, taken := 0, 0
	smallScenes(func(s Scene) {
		bytes := s.Bytes(l)
		written[bytes]++
		if len(bytes) <= len("SC1")+few {
			wanted++
		}
	})
	var grow func(bytes string, more int)
	grow = func(bytes string, more int) {
		ok := checkBytes(t, l, bytes)
		if ok != (written[bytes] == 1) {
			t.Fatalf("FromBytes(%q): %v; it is written %d times", bytes, ok, written[bytes])
		}
		if ok {
			taken++
		}
		if more == 0 {
			return
		}
		for _, b := range []string{"\x00", "\x01", "\x02", "\x03", "\x80"} {
			grow(bytes+b, more-1)
		}
	}
	grow("SC1", few)
	if taken != wanted {
		t.Errorf("%d scenes were among them, want %d", taken, wanted)
	}
}

// TestSmallScenes: each is read back, from its text and from its bytes.
func TestSmallScenes(t *testing.T) {
	l := layout.Layout{{Name: "a"}, {Name: "b", Fields: []layout.Field{{Name: "r", Kind: api.Ref}}}}
	smallScenes(func(s Scene) { wantWritten(t, l, s, s.Text(l), s.Bytes(l)) })
}
