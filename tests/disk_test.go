package tests

import (
	"math"
	"slices"
	"strings"
	"testing"

	"loop.example/g00647/impl"
)

const (
	sectors    = 12
	sectorLong = 16
	maxLater   = 40
)

var (
	// badAts lie just outside 0..11 and at the ends of int.
	badAts = []int{math.MinInt, math.MinInt + 1, -1 << 32, -12, -2, -1, 12, 13, 16, 192, 1 << 32, math.MaxInt - 1, math.MaxInt}
	// badTexts have any length but 16, 15 and 17 among them.
	badTexts = []string{"", "a", strings.Repeat("b", 8), strings.Repeat("c", 15), strings.Repeat("d", 17), strings.Repeat("\x00", 17), strings.Repeat("e", 32), strings.Repeat("f", 192), strings.Repeat("g", 1<<16)}
)

// mixedSector is different for each seed, and has bytes above 127 and others.
func mixedSector(seed uint64) string {
	return mixedText(sectorLong, seed*7919+1)
}

// mixedDisk has mixed sectors and an unsynced write of a mixed text to each of these sectors in turn.
func mixedDisk(seed uint64, ats ...int) impl.Disk {
	var d impl.Disk
	for at := range sectors {
		d.Sure = append(d.Sure, mixedSector(seed*100+uint64(at)))
	}
	for k, at := range ats {
		d.Later = append(d.Later, impl.Put{At: at, Text: mixedSector(seed*100 + 50 + uint64(k))})
	}
	return d
}

// blankDisk has sectors of zero bytes.
func blankDisk() impl.Disk {
	return impl.Disk{Sure: slices.Repeat([]string{strings.Repeat("\x00", sectorLong)}, sectors)}
}

func cloneDisk(d impl.Disk) impl.Disk {
	return impl.Disk{Sure: slices.Clone(d.Sure), Later: slices.Clone(d.Later)}
}

func equalDisks(a impl.Disk, b impl.Disk) bool {
	return slices.Equal(a.Sure, b.Sure) && slices.Equal(a.Later, b.Later)
}

// eachDisk gives disks with no unsynced write, one, a few, 39 and 40: to the first sector, to the last one, to both, to each in turn and to mixed ones; and disks of bytes at both ends of the range.
func eachDisk(f func(d impl.Disk)) {
	f(blankDisk())
	for _, many := range []int{0, 1, 2, 3, 5, 12, 13, 39, 40} {
		seed := uint64(many)
		first, last, both, each, mixed := make([]int, many), make([]int, many), make([]int, many), make([]int, many), mixedRows(8, many, seed)
		for k := range many {
			last[k], both[k], each[k] = sectors-1, k%2*(sectors-1), k%sectors
			mixed[k] %= sectors
		}
		for _, ats := range [][]int{first, last, both, each, mixed} {
			f(mixedDisk(seed, ats...))
			for _, text := range []string{"\x00", "\x7f", "\x80", "\xff"} {
				d := mixedDisk(seed, ats...)
				for k := range d.Later {
					if k%2 == 0 {
						d.Later[k].Text = strings.Repeat(text, sectorLong)
					}
				}
				d.Sure[seed%sectors] = strings.Repeat(text, sectorLong)
				f(d)
			}
		}
	}
}

// sectorIn searches the unsynced writes from the last one on.
func sectorIn(d impl.Disk, at int) string {
	for _, p := range slices.Backward(d.Later) {
		if p.At == at {
			return p.Text
		}
	}
	return d.Sure[at]
}

func allIn(d impl.Disk) string {
	all := ""
	for at := range sectors {
		all += sectorIn(d, at)
	}
	return all
}

func syncedIn(d impl.Disk) impl.Disk {
	var synced impl.Disk
	for at := range sectors {
		synced.Sure = append(synced.Sure, sectorIn(d, at))
	}
	return synced
}

// crashedIn writes byte by byte into one run of the bytes of all sectors.
func crashedIn(d impl.Disk, kept []int, torn int, bytes int) impl.Disk {
	all := []byte(strings.Join(d.Sure, ""))
	for k, p := range d.Later {
		for i := range sectorLong {
			if slices.Contains(kept, k) || k == torn && i < bytes {
				all[sectorLong*p.At+i] = p.Text[i]
			}
		}
	}
	var crashed impl.Disk
	for sector := range slices.Chunk(all, sectorLong) {
		crashed.Sure = append(crashed.Sure, string(sector))
	}
	return crashed
}

// keptLists holds every list of indexes of a few writes, and of many writes none, one alone, each second one, all, all but one, and mixed ones.
func keptLists(many int) [][]int {
	all := [][]int{nil, {}}
	if many <= 5 {
		for set := range 1 << many {
			all = append(all, indexesOf(set))
		}
		return all
	}
	each := numbersFrom(0, many)
	for _, k := range []int{0, 1, many / 2, many - 1} {
		all = append(all, []int{k}, slices.Delete(slices.Clone(each), k, k+1))
	}
	for seed := range 4 {
		all = append(all, indexesOf(mixedRows(many, 1, uint64(seed))[0]))
	}
	return append(all, each, indexesOf(0x5555555555&(1<<many-1)), each[many/2:])
}

// eachCrash gives disks with the lists of kept writes, and with them no torn write and each other write torn after numbers of bytes.
func eachCrash(f func(d impl.Disk, kept []int, torn int, bytes int)) {
	eachDisk(func(d impl.Disk) {
		for _, kept := range keptLists(len(d.Later)) {
			f(d, kept, -1, 0)
			for torn := range d.Later {
				if slices.Contains(kept, torn) {
					continue
				}
				for _, bytes := range []int{0, 1, 7, 15, 16} {
					f(d, kept, torn, bytes)
				}
			}
		}
	})
}

func TestDiskLimits(t *testing.T) {
	if impl.Sectors != sectors || impl.SectorLong != sectorLong {
		t.Fatal(impl.Sectors, impl.SectorLong)
	}
}

func TestNewDisk(t *testing.T) {
	d := impl.NewDisk()
	if !equalDisks(d, blankDisk()) || len(d.Later) != 0 || !impl.GoodDisk(d) {
		t.Fatalf("%#v", d)
	}
	if all, ok := impl.ReadAll(d); all != strings.Repeat("\x00", 192) || !ok {
		t.Errorf("%#v %v", all, ok)
	}
	for at := range sectors {
		if text, ok := impl.ReadSector(d, at); text != strings.Repeat("\x00", 16) || !ok {
			t.Errorf("%d %#v %v", at, text, ok)
		}
	}
	if synced, ok := impl.SyncDisk(d); !ok || !equalDisks(synced, blankDisk()) {
		t.Errorf("%#v %v", synced, ok)
	}
	if crashed, ok := impl.CrashDisk(d, nil, -1, 0); !ok || !equalDisks(crashed, blankDisk()) {
		t.Errorf("%#v %v", crashed, ok)
	}
}

func TestGoodDisk(t *testing.T) {
	eachDisk(func(d impl.Disk) {
		if !impl.GoodDisk(d) {
			t.Fatalf("%#v", d)
		}
	})
}

func TestPutSector(t *testing.T) {
	eachDisk(func(d impl.Disk) {
		for at := range sectors {
			for _, text := range []string{mixedSector(7), "0123456789abcdef", strings.Repeat("\x00", 16), strings.Repeat("\xff", 16), sectorIn(d, at)} {
				if len(d.Later) == maxLater {
					refusePut(t, d, at, text)
					continue
				}
				next, ok := impl.PutSector(d, at, text)
				want := cloneDisk(d)
				want.Later = append(want.Later, impl.Put{At: at, Text: text})
				if !ok || !equalDisks(next, want) || !impl.GoodDisk(next) {
					t.Fatalf("%#v %d %#v %#v %v", d, at, text, next, ok)
				}
			}
		}
	})
}

// The disk takes 40 unsynced writes and no more, whatever sectors they are to, until they are synced or the disk crashes.
func TestPutSectorUntilTheDiskIsFull(t *testing.T) {
	for _, step := range []int{0, 1, 5, 11} {
		d := impl.NewDisk()
		for k := range maxLater {
			next, ok := impl.PutSector(d, k*step%sectors, mixedSector(uint64(k)))
			if !ok || len(next.Later) != k+1 || !impl.GoodDisk(next) {
				t.Fatal(step, k, ok)
			}
			d = next
		}
		for at := range sectors {
			refusePut(t, d, at, mixedSector(40))
		}
		synced, _ := impl.SyncDisk(d)
		crashed, _ := impl.CrashDisk(d, numbersFrom(0, 39), 39, 3)
		for _, free := range []impl.Disk{synced, crashed} {
			if next, ok := impl.PutSector(free, 11, mixedSector(41)); !ok || len(next.Later) != 1 {
				t.Fatalf("%d %#v %v", step, next, ok)
			}
		}
	}
}

func TestReadSector(t *testing.T) {
	eachDisk(func(d impl.Disk) {
		for at := range sectors {
			if text, ok := impl.ReadSector(d, at); text != sectorIn(d, at) || !ok {
				t.Fatalf("%#v %d %#v %v", d, at, text, ok)
			}
		}
	})
}

// A write is read at once, and no other sector changes.
func TestReadSectorAfterPutSector(t *testing.T) {
	eachDisk(func(d impl.Disk) {
		if len(d.Later) == maxLater {
			return
		}
		for at := range sectors {
			next, _ := impl.PutSector(d, at, "fedcba9876543210")
			for other := range sectors {
				want := sectorIn(d, other)
				if other == at {
					want = "fedcba9876543210"
				}
				if text, ok := impl.ReadSector(next, other); text != want || !ok {
					t.Fatalf("%#v %d %d %#v %v", d, at, other, text, ok)
				}
			}
		}
	})
}

func TestReadSectorReturnsTheLastWrite(t *testing.T) {
	one, two, three := "first write.....", "second write....", "\x00third write\xff\x80\x00\x00"
	for at := range sectors {
		other := (at + 5) % sectors
		d := impl.NewDisk()
		for _, p := range []impl.Put{{At: at, Text: one}, {At: other, Text: three}, {At: at, Text: two}} {
			d, _ = impl.PutSector(d, p.At, p.Text)
		}
		if text, ok := impl.ReadSector(d, at); text != two || !ok {
			t.Errorf("%d %#v %v", at, text, ok)
		}
		if text, ok := impl.ReadSector(d, other); text != three || !ok {
			t.Errorf("%d %#v %v", other, text, ok)
		}
		d, _ = impl.PutSector(d, at, one)
		if text, ok := impl.ReadSector(d, at); text != one || !ok {
			t.Errorf("again %d %#v %v", at, text, ok)
		}
	}
}

func TestReadAll(t *testing.T) {
	eachDisk(func(d impl.Disk) {
		all, ok := impl.ReadAll(d)
		if all != allIn(d) || len(all) != 192 || !ok {
			t.Fatalf("%#v %#v %v", d, all, ok)
		}
		for at := range sectors {
			if text, _ := impl.ReadSector(d, at); all[16*at:16*at+16] != text {
				t.Fatalf("%#v %d %#v %#v", d, at, all, text)
			}
		}
	})
}

func TestSyncDisk(t *testing.T) {
	eachDisk(func(d impl.Disk) {
		synced, ok := impl.SyncDisk(d)
		if !ok || !equalDisks(synced, syncedIn(d)) || len(synced.Later) != 0 || !impl.GoodDisk(synced) {
			t.Fatalf("%#v %#v %v", d, synced, ok)
		}
		if all, ok := impl.ReadAll(synced); all != allIn(d) || !ok {
			t.Fatalf("reads otherwise %#v %#v %v", d, all, ok)
		}
		if len(d.Later) == 0 && !equalDisks(synced, d) {
			t.Fatalf("changed without a write %#v %#v", d, synced)
		}
	})
}

// Of several writes to one sector the last one counts, wherever the others lie.
func TestSyncDiskAppliesInOrder(t *testing.T) {
	a, b, c := strings.Repeat("a", 16), strings.Repeat("b", 16), strings.Repeat("c", 16)
	for _, x := range []struct {
		later       []impl.Put
		first, last string
	}{
		{[]impl.Put{{At: 0, Text: a}, {At: 0, Text: b}}, b, ""},
		{[]impl.Put{{At: 0, Text: b}, {At: 0, Text: a}}, a, ""},
		{[]impl.Put{{At: 0, Text: a}, {At: 0, Text: b}, {At: 0, Text: a}}, a, ""},
		{[]impl.Put{{At: 0, Text: c}, {At: 11, Text: b}, {At: 0, Text: a}}, a, b},
		{[]impl.Put{{At: 11, Text: c}, {At: 0, Text: b}, {At: 11, Text: a}}, b, a},
		{[]impl.Put{{At: 11, Text: a}, {At: 11, Text: b}, {At: 11, Text: c}}, "", c},
	} {
		d := mixedDisk(1)
		want := slices.Clone(d.Sure)
		if x.first != "" {
			want[0] = x.first
		}
		if x.last != "" {
			want[11] = x.last
		}
		d.Later = x.later
		if synced, ok := impl.SyncDisk(d); !ok || !slices.Equal(synced.Sure, want) || len(synced.Later) != 0 {
			t.Errorf("%#v %#v %v", x, synced, ok)
		}
	}
}

func TestCrashDisk(t *testing.T) {
	eachCrash(func(d impl.Disk, kept []int, torn int, bytes int) {
		crashed, ok := impl.CrashDisk(d, kept, torn, bytes)
		if !ok || !equalDisks(crashed, crashedIn(d, kept, torn, bytes)) || len(crashed.Later) != 0 || !impl.GoodDisk(crashed) {
			t.Fatalf("%#v %v %d %d %#v %v", d, kept, torn, bytes, crashed, ok)
		}
	})
}

// Every number of bytes, of a write to each sector.
func TestTornWritesOfAllLengths(t *testing.T) {
	for at := range sectors {
		for bytes := range sectorLong + 1 {
			d := mixedDisk(2, at)
			want := slices.Clone(d.Sure)
			want[at] = d.Later[0].Text[:bytes] + want[at][bytes:]
			if crashed, ok := impl.CrashDisk(d, nil, 0, bytes); !ok || !slices.Equal(crashed.Sure, want) || len(crashed.Later) != 0 {
				t.Errorf("%d %d %#v %v", at, bytes, crashed, ok)
			}
		}
	}
}

// A torn write of no bytes is a lost one, and one of all bytes a kept one.
func TestTornWritesOfNoBytesAndOfAll(t *testing.T) {
	eachDisk(func(d impl.Disk) {
		for _, kept := range keptLists(len(d.Later)) {
			for torn := range d.Later {
				if slices.Contains(kept, torn) {
					continue
				}
				lost, _ := impl.CrashDisk(d, kept, -1, 0)
				none, ok := impl.CrashDisk(d, kept, torn, 0)
				if !ok || !equalDisks(none, lost) {
					t.Fatalf("none %#v %v %d %#v", d, kept, torn, none)
				}
				with := append(slices.Clone(kept), torn)
				slices.Sort(with)
				whole, _ := impl.CrashDisk(d, with, -1, 0)
				all, ok := impl.CrashDisk(d, kept, torn, 16)
				if !ok || !equalDisks(all, whole) {
					t.Fatalf("all %#v %v %d %#v", d, kept, torn, all)
				}
			}
		}
	})
}

func TestCrashThatKeepsNoneOrAll(t *testing.T) {
	eachDisk(func(d impl.Disk) {
		none, ok := impl.CrashDisk(d, nil, -1, 0)
		if !ok || !equalDisks(none, impl.Disk{Sure: d.Sure}) {
			t.Fatalf("none %#v %#v %v", d, none, ok)
		}
		all, ok := impl.CrashDisk(d, numbersFrom(0, len(d.Later)), -1, 0)
		synced, _ := impl.SyncDisk(d)
		if !ok || !equalDisks(all, synced) {
			t.Fatalf("all %#v %#v %v", d, all, ok)
		}
	})
}

// Worked out apart from the program: a torn write before, between and after kept ones to its sector, which leaves the remaining bytes as they are at that point.
func TestKnownCrashes(t *testing.T) {
	o, a, b, c, zero, high := "oooooooooooooooo", "aaaaaaaaaaaaaaaa", "bbbbbbbbbbbbbbbb", "cccccccccccccccc", strings.Repeat("\x00", 16), strings.Repeat("\xff", 16)
	for _, x := range []struct {
		texts       []string
		kept        []int
		torn, bytes int
		want        string
	}{
		{nil, nil, -1, 0, o},
		{[]string{a}, nil, -1, 0, o},
		{[]string{a}, []int{0}, -1, 0, a},
		{[]string{a}, nil, 0, 0, o},
		{[]string{a}, nil, 0, 1, "aooooooooooooooo"},
		{[]string{a}, nil, 0, 15, "aaaaaaaaaaaaaaao"},
		{[]string{a}, nil, 0, 16, a},
		{[]string{a, b}, nil, -1, 0, o},
		{[]string{a, b}, []int{0}, -1, 0, a},
		{[]string{a, b}, []int{1}, -1, 0, b},
		{[]string{a, b}, []int{0, 1}, -1, 0, b},
		{[]string{a, b}, nil, 1, 3, "bbbooooooooooooo"},
		{[]string{a, b}, []int{1}, 0, 3, b},
		{[]string{a, b}, []int{1}, 0, 16, b},
		{[]string{a, b}, []int{0}, 1, 3, "bbbaaaaaaaaaaaaa"},
		{[]string{a, b}, []int{0}, 1, 0, a},
		{[]string{a, b}, []int{0}, 1, 15, "bbbbbbbbbbbbbbba"},
		{[]string{a, b}, []int{0}, 1, 16, b},
		{[]string{a, b, c}, []int{1, 2}, 0, 5, c},
		{[]string{a, b, c}, []int{0, 2}, 1, 5, c},
		{[]string{a, b, c}, []int{0, 1}, 2, 5, "cccccbbbbbbbbbbb"},
		{[]string{a, b, c}, []int{0}, 1, 5, "bbbbbaaaaaaaaaaa"},
		{[]string{a, b, c}, []int{0}, 2, 5, "cccccaaaaaaaaaaa"},
		{[]string{a, b, c}, []int{1}, 2, 5, "cccccbbbbbbbbbbb"},
		{[]string{a, b, c}, []int{2}, 1, 5, c},
		{[]string{a, b, c}, []int{1}, 0, 5, b},
		{[]string{a, b, c}, nil, 1, 5, "bbbbbooooooooooo"},
		{[]string{zero}, nil, 0, 4, "\x00\x00\x00\x00oooooooooooo"},
		{[]string{high}, nil, 0, 2, "\xff\xffoooooooooooooo"},
		{[]string{high, zero}, []int{0}, 1, 14, "\x00\x00\x00\x00\x00\x00\x00\x00\x00\x00\x00\x00\x00\x00\xff\xff"},
		{[]string{"éééééééé"}, nil, 0, 3, "é\xc3ooooooooooooo"},
		{[]string{"0123456789abcdef"}, nil, 0, 9, "012345678ooooooo"},
	} {
		for _, at := range []int{0, 4, 11} {
			d := impl.Disk{Sure: slices.Repeat([]string{o}, sectors)}
			for _, text := range x.texts {
				d.Later = append(d.Later, impl.Put{At: at, Text: text})
			}
			want := slices.Repeat([]string{o}, sectors)
			want[at] = x.want
			if crashed, ok := impl.CrashDisk(d, x.kept, x.torn, x.bytes); !ok || !slices.Equal(crashed.Sure, want) || len(crashed.Later) != 0 {
				t.Errorf("%#v %d %#v %v", x, at, crashed, ok)
			}
		}
	}
}

// Promise 9, for one crash: sectors without an unsynced write keep what they have durably.
func TestCrashLeavesSectorsThatWereNotWritten(t *testing.T) {
	eachCrash(func(d impl.Disk, kept []int, torn int, bytes int) {
		crashed, ok := impl.CrashDisk(d, kept, torn, bytes)
		if !ok || len(crashed.Sure) != sectors {
			t.Fatalf("%#v %v %d %d %#v %v", d, kept, torn, bytes, crashed, ok)
		}
		for at := range sectors {
			if slices.ContainsFunc(d.Later, func(p impl.Put) bool { return p.At == at }) {
				continue
			}
			before, _ := impl.ReadSector(d, at)
			after, ok := impl.ReadSector(crashed, at)
			if crashed.Sure[at] != d.Sure[at] || after != before || !ok {
				t.Fatalf("%#v %v %d %d %d %#v", d, kept, torn, bytes, at, crashed)
			}
		}
	})
}

// Promise 9, for whole runs: puts, syncs and crashes, against what each sector had at the last sync or crash.
func TestRunsOfADisk(t *testing.T) {
	for seed := range uint64(60) {
		d := impl.NewDisk()
		durable := blankDisk().Sure
		written := map[int]bool{}
		steps := mixedRows(30, 200, seed)
		for _, n := range steps {
			switch kind := n % 20; {
			case kind == 0:
				durable = linesOf(t, d)
				d, _ = impl.SyncDisk(d)
				clear(written)
			case kind == 1:
				kept, torn, bytes := mixedCrash(n, len(d.Later))
				crashed, ok := impl.CrashDisk(d, kept, torn, bytes)
				if !ok || !equalDisks(crashed, crashedIn(d, kept, torn, bytes)) {
					t.Fatalf("%d %#v %v %d %d %#v %v", seed, d, kept, torn, bytes, crashed, ok)
				}
				for at, text := range linesOf(t, crashed) {
					if !written[at] && text != durable[at] {
						t.Fatalf("%d %#v %v %d %d %d %#v", seed, d, kept, torn, bytes, at, text)
					}
				}
				d, durable = crashed, linesOf(t, crashed)
				clear(written)
			case len(d.Later) < maxLater:
				at := n / 20 % sectors
				d, _ = impl.PutSector(d, at, mixedSector(uint64(n)))
				written[at] = true
			}
			if !impl.GoodDisk(d) {
				t.Fatalf("%d %#v", seed, d)
			}
		}
	}
}

func linesOf(t *testing.T, d impl.Disk) []string {
	t.Helper()
	var l []string
	for at := range sectors {
		text, ok := impl.ReadSector(d, at)
		if !ok {
			t.Fatalf("%#v %d", d, at)
		}
		l = append(l, text)
	}
	return l
}

// mixedCrash picks kept writes, and a torn one if the one that it meets is not kept.
func mixedCrash(n int, many int) ([]int, int, int) {
	kept := indexesOf(mixedRows(many, 1, uint64(n))[0])
	if many == 0 || slices.Contains(kept, n%many) {
		return kept, -1, 0
	}
	return kept, n % many, n % (sectorLong + 1)
}

func refuse[T any](t *testing.T, name string, is func(T) bool, got T, ok bool, of ...any) {
	t.Helper()
	if ok || !is(got) {
		t.Fatalf("%s %#v: %#v %v", name, of, got, ok)
	}
}

func isNoDisk(d impl.Disk) bool {
	return len(d.Sure) == 0 && len(d.Later) == 0
}

func isNoText(s string) bool {
	return s == ""
}

func refusePut(t *testing.T, d impl.Disk, at int, text string) {
	t.Helper()
	next, ok := impl.PutSector(d, at, text)
	refuse(t, "PutSector", isNoDisk, next, ok, d, at, text)
}

func refuseRead(t *testing.T, d impl.Disk, at int) {
	t.Helper()
	text, ok := impl.ReadSector(d, at)
	refuse(t, "ReadSector", isNoText, text, ok, d, at)
}

func refuseCrash(t *testing.T, d impl.Disk, kept []int, torn int, bytes int) {
	t.Helper()
	crashed, ok := impl.CrashDisk(d, kept, torn, bytes)
	refuse(t, "CrashDisk", isNoDisk, crashed, ok, d, kept, torn, bytes)
	refuseCrashLog(t, d, kept, torn, bytes)
}

// refuseDisk gives the disk to every function that takes one, with arguments that are valid otherwise.
func refuseDisk(t *testing.T, d impl.Disk) {
	t.Helper()
	if impl.GoodDisk(d) {
		t.Fatalf("GoodDisk %#v", d)
	}
	for at := range sectors {
		refusePut(t, d, at, mixedSector(3))
		refuseRead(t, d, at)
	}
	synced, ok := impl.SyncDisk(d)
	refuse(t, "SyncDisk", isNoDisk, synced, ok, d)
	refuseCrash(t, d, nil, -1, 0)
	if many := len(d.Later); many > 0 {
		refuseCrash(t, d, numbersFrom(0, many), -1, 0)
		refuseCrash(t, d, nil, many-1, 16)
		refuseCrash(t, d, nil, 0, 0)
	}
	all, ok := impl.ReadAll(d)
	refuse(t, "ReadAll", isNoText, all, ok, d)
	refuseLog(t, d)
}

func TestDisksWithOtherNumbersOfSectorsAreRefused(t *testing.T) {
	refuseDisk(t, impl.Disk{})
	for _, later := range [][]impl.Put{nil, {}, {{At: 0, Text: mixedSector(1)}}, {{At: 11, Text: mixedSector(2)}}, mixedDisk(1, make([]int, 40)...).Later} {
		for _, count := range []int{0, 1, 10, 11, 13, 14, 24, 1000} {
			refuseDisk(t, impl.Disk{Sure: slices.Repeat([]string{mixedSector(4)}, count), Later: later})
			refuseDisk(t, impl.Disk{Sure: make([]string, count), Later: later})
		}
	}
}

// One sector of another length, which may be one too many; all of them; two whose lengths add up to the right one; and such sectors with a write to them.
func TestDisksWithOtherSectorsAreRefused(t *testing.T) {
	for at := range sectors {
		for _, text := range badTexts {
			d := mixedDisk(5, 0, 11)
			d.Sure[at] = text
			refuseDisk(t, d)
			d.Later = nil
			refuseDisk(t, d)
			d.Later = []impl.Put{{At: at, Text: mixedSector(6)}}
			refuseDisk(t, d)
			d.Sure[(at+1)%sectors] = text
			refuseDisk(t, d)
		}
		d := mixedDisk(5, at)
		d.Sure[at], d.Sure[(at+1)%sectors] = strings.Repeat("a", 15), strings.Repeat("b", 17)
		refuseDisk(t, d)
	}
	refuseDisk(t, impl.Disk{Sure: make([]string, sectors)})
	for at := range sectors + 1 {
		for _, text := range badTexts {
			d := mixedDisk(5, 0, 11)
			d.Sure = slices.Insert(d.Sure, at, text)
			refuseDisk(t, d)
		}
	}
}

func TestDisksWithManyWritesAreRefused(t *testing.T) {
	for _, count := range []int{41, 42, 80, 1000} {
		refuseDisk(t, mixedDisk(6, make([]int, count)...))
		refuseDisk(t, mixedDisk(6, slices.Repeat([]int{11}, count)...))
	}
	each := make([]int, 41)
	for k := range each {
		each[k] = k % sectors
	}
	refuseDisk(t, mixedDisk(6, each...))
}

// One invalid write, the first, the last or another one.
func TestDisksWithInvalidWritesAreRefused(t *testing.T) {
	for _, many := range []int{1, 2, 3, 39, 40} {
		for k := range many {
			for _, at := range badAts {
				d := mixedDisk(7, slices.Repeat([]int{3}, many)...)
				d.Later[k].At = at
				refuseDisk(t, d)
			}
			for _, text := range badTexts {
				d := mixedDisk(7, slices.Repeat([]int{3}, many)...)
				d.Later[k].Text = text
				refuseDisk(t, d)
			}
			d := mixedDisk(7, slices.Repeat([]int{3}, many)...)
			d.Later[k] = impl.Put{}
			refuseDisk(t, d)
		}
	}
}

func TestOtherSectorsAreRefused(t *testing.T) {
	eachDisk(func(d impl.Disk) {
		for _, at := range badAts {
			refusePut(t, d, at, mixedSector(8))
			refuseRead(t, d, at)
		}
	})
}

func TestPutSectorRefusesOtherTexts(t *testing.T) {
	eachDisk(func(d impl.Disk) {
		for _, text := range badTexts {
			for _, at := range append([]int{0, 5, 11}, badAts...) {
				refusePut(t, d, at, text)
			}
		}
	})
}

// An index twice, decreasing, negative, or of no write.
func TestCrashDiskRefusesOtherKeptLists(t *testing.T) {
	eachDisk(func(d impl.Disk) {
		many := len(d.Later)
		bad := [][]int{slices.Repeat([]int{0}, 1000), numbersFrom(0, many+1), numbersFrom(0, 1000), numbersFrom(-1, many+1)}
		for _, k := range []int{math.MinInt, math.MinInt + 1, -many - 1, -2, -1, many, many + 1, max(many+1, maxLater), 1 << 32, math.MaxInt - 1, math.MaxInt} {
			bad = append(bad, []int{k}, []int{0, k}, []int{k, 0}, append(numbersFrom(0, many), k))
		}
		for k := range many {
			bad = append(bad, []int{k, k}, append(numbersFrom(0, many), k), append([]int{many - 1}, numbersFrom(0, k+1)...))
			if k > 0 {
				bad = append(bad, []int{k, k - 1}, []int{k, 0}, []int{0, k, k - 1}, []int{0, k, k}, []int{0, 0, k})
			}
		}
		for _, kept := range bad {
			refuseCrash(t, d, kept, -1, 0)
			for _, torn := range []int{0, many / 2, many - 1} {
				refuseCrash(t, d, kept, torn, 3)
			}
		}
	})
}

func TestCrashDiskRefusesOtherTornWrites(t *testing.T) {
	eachDisk(func(d impl.Disk) {
		many := len(d.Later)
		for _, kept := range keptLists(many) {
			for _, torn := range append([]int{math.MinInt, math.MinInt + 1, -many - 1, -3, -2, many, many + 1, maxLater, 1 << 32, math.MaxInt - 1, math.MaxInt}, kept...) {
				if torn < -1 || torn >= many || slices.Contains(kept, torn) {
					for _, bytes := range []int{0, 1, 15, 16} {
						refuseCrash(t, d, kept, torn, bytes)
					}
				}
			}
		}
	})
}

// With a torn write, and more than none with no torn write.
func TestCrashDiskRefusesOtherNumbersOfBytes(t *testing.T) {
	eachDisk(func(d impl.Disk) {
		bad := []int{math.MinInt, math.MinInt + 1, -17, -16, -2, -1, 17, 18, 32, 192, 1 << 32, math.MaxInt - 1, math.MaxInt}
		for _, kept := range keptLists(len(d.Later)) {
			for _, bytes := range bad {
				refuseCrash(t, d, kept, -1, bytes)
				for torn := range d.Later {
					if !slices.Contains(kept, torn) {
						refuseCrash(t, d, kept, torn, bytes)
					}
				}
			}
			for bytes := 1; bytes <= sectorLong; bytes++ {
				refuseCrash(t, d, kept, -1, bytes)
			}
		}
	})
}

// diskWithTails puts behind the lengths of the lists what would make the disk invalid or another one.
func diskWithTails(d impl.Disk) (impl.Disk, impl.Disk) {
	whole := impl.Disk{
		Sure:  append(slices.Clone(d.Sure), "short", mixedSector(9)),
		Later: append(slices.Clone(d.Later), impl.Put{At: 0, Text: mixedSector(10)}, impl.Put{At: -1}),
	}
	return impl.Disk{Sure: whole.Sure[:len(d.Sure)], Later: whole.Later[:len(d.Later)]}, whole
}

// callDisk calls every function of the chapter that takes a disk and gathers what they return.
func callDisk(d impl.Disk, at int, text string, kept []int, torn int, bytes int) ([]impl.Disk, []string, []bool) {
	put, isPut := impl.PutSector(d, at, text)
	sector, isSector := impl.ReadSector(d, at)
	synced, isSynced := impl.SyncDisk(d)
	crashed, isCrashed := impl.CrashDisk(d, kept, torn, bytes)
	all, isAll := impl.ReadAll(d)
	return []impl.Disk{put, synced, crashed}, []string{sector, all}, []bool{impl.GoodDisk(d), isPut, isSector, isSynced, isCrashed, isAll}
}

// eachDiskCall gives valid arguments and invalid ones.
func eachDiskCall(f func(d impl.Disk, at int, text string, kept []int, torn int, bytes int)) {
	eachCrash(func(d impl.Disk, kept []int, torn int, bytes int) {
		f(d, bytes%sectors, mixedSector(11), kept, torn, bytes)
	})
	invalid := mixedDisk(8, 0, 1, 2)
	invalid.Later[1].Text = "short"
	short := mixedDisk(8, 0, 1, 2)
	short.Sure = short.Sure[:11]
	for _, d := range []impl.Disk{{}, blankDisk(), mixedDisk(8, 0, 11, 0), mixedDisk(8, make([]int, 40)...), mixedDisk(8, make([]int, 41)...), mixedDisk(8, 0, 12), invalid, short} {
		for _, at := range append([]int{0, 11}, badAts...) {
			for _, kept := range [][]int{nil, {}, {0}, {0, 1, 2}, {1, 0}, {2, 2}, {-1}, {41}, {math.MinInt, math.MaxInt}, numbersFrom(0, 100)} {
				for _, torn := range []int{math.MinInt, -2, -1, 0, 1, 2, 40, 41, math.MaxInt} {
					for _, bytes := range []int{math.MinInt, -1, 0, 3, 16, 17, math.MaxInt} {
						f(d, at, badTexts[(len(kept)+bytes&7)%len(badTexts)], kept, torn, bytes)
					}
				}
			}
		}
	}
}

// Promise 19: the disk and the list are neither changed nor read behind their lengths.
func TestDisksAreLeftAlone(t *testing.T) {
	eachDiskCall(func(d impl.Disk, at int, text string, kept []int, torn int, bytes int) {
		disk, wholeDisk := diskWithTails(d)
		list, wholeList := withTail(kept)
		diskBefore, listBefore := cloneDisk(wholeDisk), slices.Clone(wholeList)
		disks, texts, oks := callDisk(disk, at, text, list, torn, bytes)
		if !equalDisks(wholeDisk, diskBefore) || !slices.Equal(wholeList, listBefore) {
			t.Fatalf("changed %#v %d %#v %v %d %d: %#v %v", d, at, text, kept, torn, bytes, wholeDisk, wholeList)
		}
		clean := impl.Disk{Sure: slices.Clip(slices.Clone(d.Sure)), Later: slices.Clip(slices.Clone(d.Later))}
		wantDisks, wantTexts, wantOks := callDisk(clean, at, text, slices.Clip(slices.Clone(kept)), torn, bytes)
		if !slices.EqualFunc(disks, wantDisks, equalDisks) || !slices.Equal(texts, wantTexts) || !slices.Equal(oks, wantOks) {
			t.Fatalf("read behind the length %#v %d %#v %v %d %d: %#v %#v %v", d, at, text, kept, torn, bytes, disks, texts, oks)
		}
	})
}

// overwriteDisk overwrites the lists up to their capacities.
func overwriteDisk(d impl.Disk) {
	room, later := d.Sure[:cap(d.Sure)], d.Later[:cap(d.Later)]
	for k := range room {
		room[k] = "overwritten"
	}
	for k := range later {
		later[k] = impl.Put{At: -7, Text: "overwritten"}
	}
}

// A disk that is returned may be overwritten without effect on the argument, on what lies behind its lengths, or on other results; and so may the argument.
func TestDisksShareNoMemory(t *testing.T) {
	eachDisk(func(d impl.Disk) {
		many := len(d.Later)
		for name, call := range map[string]func(impl.Disk) (impl.Disk, bool){
			"PutSector":       func(x impl.Disk) (impl.Disk, bool) { return impl.PutSector(x, 11, mixedSector(12)) },
			"SyncDisk":        impl.SyncDisk,
			"CrashDisk, none": func(x impl.Disk) (impl.Disk, bool) { return impl.CrashDisk(x, nil, -1, 0) },
			"CrashDisk, all":  func(x impl.Disk) (impl.Disk, bool) { return impl.CrashDisk(x, numbersFrom(0, many), -1, 0) },
			"CrashDisk, torn": func(x impl.Disk) (impl.Disk, bool) { return impl.CrashDisk(x, nil, many-1, min(many, 5)) },
			"PutSector, PutSector": func(x impl.Disk) (impl.Disk, bool) {
				x, _ = impl.PutSector(x, 0, mixedSector(13))
				return impl.PutSector(x, 0, mixedSector(14))
			},
		} {
			disk, whole := diskWithTails(d)
			before := cloneDisk(whole)
			first, ok := call(disk)
			want := cloneDisk(first)
			second, _ := call(disk)
			overwriteDisk(first)
			if !equalDisks(whole, before) {
				t.Fatalf("%s shares with the argument %#v %#v", name, d, whole)
			}
			third, is := call(disk)
			overwriteDisk(disk)
			if is != ok || !equalDisks(second, want) || !equalDisks(third, want) {
				t.Fatalf("%s shares with another result or the argument %#v %#v %#v %#v", name, d, want, second, third)
			}
		}
	})
}

// Two writes to one disk, of which neither shows in the other's result.
func TestWritesToOneDiskAreApart(t *testing.T) {
	for many := range maxLater {
		d := impl.NewDisk()
		for k := range many {
			d, _ = impl.PutSector(d, k%sectors, mixedSector(uint64(k)))
		}
		a, _ := impl.PutSector(d, 0, "aaaaaaaaaaaaaaaa")
		b, _ := impl.PutSector(d, 0, "bbbbbbbbbbbbbbbb")
		first, _ := impl.ReadSector(a, 0)
		second, _ := impl.ReadSector(b, 0)
		if first != "aaaaaaaaaaaaaaaa" || second != "bbbbbbbbbbbbbbbb" || len(d.Later) != many {
			t.Fatalf("%d %#v %#v %d", many, first, second, len(d.Later))
		}
	}
}

func TestNewDisksShareNoMemory(t *testing.T) {
	first, second := impl.NewDisk(), impl.NewDisk()
	overwriteDisk(first)
	if !equalDisks(second, blankDisk()) || !equalDisks(impl.NewDisk(), blankDisk()) {
		t.Fatalf("%#v", second)
	}
}

// The kept indexes are not part of the result either.
func TestKeptListsAreLeftAlone(t *testing.T) {
	eachCrash(func(d impl.Disk, kept []int, torn int, bytes int) {
		list := slices.Clone(kept)
		crashed, ok := impl.CrashDisk(d, list, torn, bytes)
		if !ok || !slices.Equal(list, kept) {
			t.Fatalf("%#v %v %v", d, kept, list)
		}
		overwrite(list)
		if !equalDisks(crashed, crashedIn(d, kept, torn, bytes)) {
			t.Fatalf("%#v %v %#v", d, kept, crashed)
		}
	})
}
