package locale_test

import (
	"fmt"
	"testing"

	"quipu/api"
	"quipu/block"
	"quipu/bundle"
	"quipu/locale"
)

// P15.4, W2

func entriesOf(t *testing.T, l api.Locale) []api.Entry {
	t.Helper()
	list, err := locale.Entries(l)
	if err != api.OK {
		t.Fatalf("Entries of %s: error %d", short(l), err)
	}
	return list
}

// What is laid down in a bundle of one table is loaded as it was; a child without entries says the same.
func TestLoadOfEntries(t *testing.T) {
	r := source()
	for i := range 400 {
		l := someRecord(r)
		switch i {
		case 0:
			l = least()
		case 1:
			l = record()
		case 2:
			l = full()
		}
		tables := []api.Table{table(l.Name, -1, entriesOf(t, l)...)}
		expectLoad(t, of(tables...), l.Name, l)
		for n := range 3 {
			name := fmt.Sprint("child ", n)
			tables = append(tables, table(name, n))
			child := l
			child.Name = name
			expectLoad(t, of(tables...), name, child)
			expectLoad(t, of(tables...), l.Name, l)
		}
		if t.Failed() {
			return
		}
	}
}

// What is loaded of any bundle may be, and is loaded again as it is.
func TestLoadedAgain(t *testing.T) {
	r := source()
	taken := 0
	for range 2000 {
		b := someFamily(r)
		name := fmt.Sprint("t", len(b.Tables)-1)
		l, err := locale.Load(b, name)
		if err != api.OK {
			continue
		}
		taken++
		if err := locale.Check(l); err != api.OK || l.Name != name {
			t.Fatalf("Load of %s: %s, which may not be: %d", short(b), short(l), err)
		}
		expectLoad(t, of(table(name, -1, entriesOf(t, l)...)), name, l)
		// Its entries in a nearer table say no more than the parents do, of which an empty form is left as it is.
		b.Tables = append(b.Tables, table("new", len(b.Tables)-1, entriesOf(t, l)...))
		l.Name = "new"
		expectLoad(t, b, "new", l)
		if t.Failed() {
			return
		}
	}
	if taken < 400 {
		t.Error("too few are loaded:", taken)
	}
}

// fromDisk: what a disk of this image, with these faults, says of a name.
func fromDisk(image string, faults []api.Fault, name string) (api.Locale, api.Errno) {
	disk, err := block.New(image, faults)
	if err != api.OK {
		return api.Locale{}, err
	}
	body, err := block.Load(disk)
	if err != api.OK {
		return api.Locale{}, err
	}
	b, err := bundle.Decode(body)
	if err != api.OK {
		return api.Locale{}, err
	}
	return locale.Load(b, name)
}

func imageOf(t *testing.T, tables ...api.Table) string {
	t.Helper()
	body, err := bundle.Encode(of(tables...))
	if err != api.OK {
		t.Fatal("Encode:", err)
	}
	image, err := block.Seal(body)
	if err != api.OK {
		t.Fatal("Seal:", err)
	}
	return image
}

func expectNone(t *testing.T, what string, image string, faults []api.Fault, name string) {
	t.Helper()
	if l, err := fromDisk(image, faults, name); err == api.OK || !same(l, api.Locale{}) {
		t.Errorf("%s: %s, error %d", what, short(l), err)
	}
}

// turned: the bytes, of which one bit is turned.
func turned(s string, at, bit int) string {
	return s[:at] + string([]byte{s[at] ^ 1<<bit}) + s[at+1:]
}

func TestOneBitTurned(t *testing.T) {
	for _, l := range []api.Locale{least(), record()} {
		image := imageOf(t, table(l.Name, -1, entriesOf(t, l)...), table("child", 0))
		if got, err := fromDisk(image, nil, l.Name); err != api.OK || !same(got, l) {
			t.Fatalf("from a disk: %s, error %d", short(got), err)
		}
		for at := range len(image) {
			for bit := range 8 {
				expectNone(t, fmt.Sprint("the bit ", bit, " of the byte ", at), turned(image, at, bit), nil, l.Name)
				faults := []api.Fault{{At: at / 64, Kind: api.FaultFlip, Byte: at % 64, Bit: bit}}
				expectNone(t, fmt.Sprint("a read that turns the bit ", bit, " of the byte ", at), image, faults, "child")
			}
		}
	}
}

func TestOneReadFailsOrTellsLess(t *testing.T) {
	for _, l := range []api.Locale{least(), record(), full()} {
		image := imageOf(t, table(l.Name, -1, entriesOf(t, l)...))
		reads := (len(image) + 63) / 64
		for at := range reads {
			expectNone(t, fmt.Sprint("a failing read ", at), image, []api.Fault{{At: at, Kind: api.FaultError}}, l.Name)
			for n := range 130 {
				expectNone(t, fmt.Sprint("a short read ", at, " of ", n), image, []api.Fault{{At: at, Kind: api.FaultShort, Byte: n}}, l.Name)
			}
		}
		for kind := api.FaultError; kind <= api.FaultFlip; kind++ {
			if got, err := fromDisk(image, []api.Fault{{At: reads, Kind: kind}}, l.Name); err != api.OK || !same(got, l) {
				t.Errorf("a fault of a read that does not come: %s, error %d", short(got), err)
			}
		}
	}
}

// Images that end early, or are none.
func TestNoImage(t *testing.T) {
	l := least()
	image := imageOf(t, table(l.Name, -1, entriesOf(t, l)...))
	for n := range len(image) {
		expectNone(t, fmt.Sprint("the first ", n, " bytes"), image[:n], nil, l.Name)
		expectNone(t, fmt.Sprint("what is behind ", n+1, " bytes"), image[n+1:], nil, l.Name)
	}
	expectNone(t, "another name", image, nil, "y")
}
