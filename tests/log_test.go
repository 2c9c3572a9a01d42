package tests

import (
	"fmt"
	"math"
	"regexp"
	"slices"
	"strconv"
	"strings"
	"testing"

	"loop.example/g00647/impl"
)

const maxSummed = 60

var (
	// recordValues are numbers of all lengths for A and B, with digits that differ at each place, and the limits.
	recordValues = []int{0, 1, 5, 9, 10, 70, 99, 100, 608, 999, 1000, 4567, 9998, 9999}
	// badRecordNos and badRecordKinds lie just outside the limits, at the ends of int, and where the lower digits or bits are those of a valid number.
	badRecordNos    = []int{math.MinInt, math.MinInt + 1, -1 << 32, -12, -2, -1, 0, 13, 14, 20, 99, 100, 101, 112, 1<<32 + 1, math.MaxInt - 1, math.MaxInt}
	badRecordKinds  = []int{math.MinInt, math.MinInt + 1, -1 << 32, -9, -2, -1, 0, 10, 11, 19, 101, 1<<32 + 1, math.MaxInt - 1, math.MaxInt}
	badRecordValues = []int{math.MinInt, math.MinInt + 1, -1 << 32, -9999, -2, -1, 10000, 10001, 19999, 99999, 1<<32 + 1, math.MaxInt - 1, math.MaxInt}

	recordForm = regexp.MustCompile(`\A([0-9]{2})([0-9])([0-9]{4})([0-9]{4})([0-9]{4});\z`)
)

// sumIn adds each byte once for each end of the string in which it lies, that is, as often as its index plus 1.
func sumIn(s string) int {
	sum := 0
	for from := range len(s) {
		for _, b := range []byte(s[from:]) {
			sum += int(b)
		}
	}
	return sum % 9973
}

// withSum appends the checksum and the last byte, whatever the data are.
func withSum(data string) string {
	return data + fmt.Sprintf("%04d;", sumIn(data))
}

func recordIn(r impl.Record) string {
	return withSum(fmt.Sprintf("%02d%d%04d%04d", r.No, r.Kind, r.A, r.B))
}

// readRecordIn checks the form, the limits and the checksum one by one.
func readRecordIn(s string) (impl.Record, bool) {
	fields := recordForm.FindStringSubmatch(s)
	if fields == nil {
		return impl.Record{}, false
	}
	var n [5]int
	for k := range n {
		n[k], _ = strconv.Atoi(fields[k+1])
	}
	if n[0] < 1 || n[0] > sectors || n[1] < 1 || n[4] != sumIn(s[:11]) {
		return impl.Record{}, false
	}
	return impl.Record{No: n[0], Kind: n[1], A: n[2], B: n[3]}, true
}

func logIn(d impl.Disk) []impl.Record {
	var log []impl.Record
	for at := range sectors {
		r, ok := readRecordIn(sectorIn(d, at))
		if !ok || r.No != at+1 {
			return log
		}
		log = append(log, r)
	}
	return log
}

func mixedRecord(no int, seed uint64) impl.Record {
	n := mixedRows(14, 3, seed*7919+uint64(no))
	return impl.Record{No: no, Kind: n[0]%9 + 1, A: n[1] % 10000, B: n[2] % 10000}
}

// mixedLog is a log of count records.
func mixedLog(count int, seed uint64) []impl.Record {
	var log []impl.Record
	for no := range count {
		log = append(log, mixedRecord(no+1, seed))
	}
	return log
}

// putIn is the unsynced write of a record to its sector.
func putIn(r impl.Record) impl.Put {
	return impl.Put{At: r.No - 1, Text: recordIn(r)}
}

// logDisk has the first records of the log durably, and unsynced writes of the others.
func logDisk(log []impl.Record, durable int) impl.Disk {
	d := blankDisk()
	for k, r := range log {
		if k < durable {
			d.Sure[r.No-1] = recordIn(r)
		} else {
			d.Later = append(d.Later, putIn(r))
		}
	}
	return d
}

// eachRecord gives all numbers and kinds with values of all lengths.
func eachRecord(f func(r impl.Record)) {
	for no := 1; no <= sectors; no++ {
		for kind := 1; kind <= 9; kind++ {
			for _, a := range recordValues {
				for _, b := range recordValues {
					f(impl.Record{No: no, Kind: kind, A: a, B: b})
				}
			}
		}
	}
}

// someRecords has the limits of each number, and mixed records.
func someRecords() []impl.Record {
	records := []impl.Record{{No: 1, Kind: 1, A: 5, B: 7}}
	for _, no := range []int{1, 12} {
		for _, kind := range []int{1, 9} {
			for _, a := range []int{0, 9999} {
				for _, b := range []int{0, 9999} {
					records = append(records, impl.Record{No: no, Kind: kind, A: a, B: b})
				}
			}
		}
	}
	return append(records, mixedLog(sectors, 1)...)
}

// badRecords have one number outside its limits, or all of them.
func badRecords() []impl.Record {
	bad := []impl.Record{{}, {No: -1, Kind: -1, A: -1, B: -1}, {No: 13, Kind: 10, A: 10000, B: 10000}}
	for _, r := range someRecords() {
		for _, n := range badRecordNos {
			bad = append(bad, impl.Record{No: n, Kind: r.Kind, A: r.A, B: r.B})
		}
		for _, n := range badRecordKinds {
			bad = append(bad, impl.Record{No: r.No, Kind: n, A: r.A, B: r.B})
		}
		for _, n := range badRecordValues {
			bad = append(bad, impl.Record{No: r.No, Kind: r.Kind, A: n, B: r.B}, impl.Record{No: r.No, Kind: r.Kind, A: r.A, B: n})
		}
	}
	return bad
}

// notRecordsOf are the contents of a sector at which a log stops, although most of them come near to its record.
func notRecordsOf(r impl.Record) []string {
	good := recordIn(r)
	other := r
	other.No = r.No%sectors + 1
	before := r
	before.No = (r.No+sectors-2)%sectors + 1
	data := good[:11]
	return []string{
		strings.Repeat("\x00", 16), mixedSector(uint64(r.No)), "0123456789abcdef", recordIn(other), recordIn(before),
		good[:15] + "\x00", good[:15] + ":", good[:1] + "\x00" + good[2:], "\x00" + good[:15], good[1:] + ";", good[8:] + good[:8],
		data + fmt.Sprintf("%04d;", sumIn(data)+1), data + fmt.Sprintf("%04d;", sumIn(data)-1),
		withSum("00" + data[2:]), withSum("13" + data[2:]), withSum(data[:2] + "0" + data[3:]), withSum(fmt.Sprintf("+%d", r.No%10) + data[2:]), withSum(fmt.Sprintf(" %d", r.No%10) + data[2:]),
	}
}

// eachLog gives disks with logs of all lengths: durable, partly durable and unsynced ones; written in the other order; over other records; and with one sector that ends them early, durably or by an unsynced write.
func eachLog(f func(d impl.Disk)) {
	for count := range sectors + 1 {
		log := mixedLog(count, uint64(count))
		for durable := range count + 1 {
			f(logDisk(log, durable))
			back := logDisk(log, durable)
			slices.Reverse(back.Later)
			f(back)
			over := logDisk(mixedLog(count, 90), count)
			over.Later = logDisk(log, durable).Later
			f(over)
		}
		for k, r := range log {
			gap := logDisk(slices.Delete(slices.Clone(log), k, k+1), 0)
			f(gap)
			gap.Later = append(gap.Later, putIn(r))
			f(gap)
			for _, text := range notRecordsOf(r) {
				d := logDisk(log, count)
				d.Sure[k] = text
				f(d)
				d.Later = []impl.Put{putIn(r)}
				f(d)
				d = logDisk(log, count-1)
				d.Later = append(d.Later, impl.Put{At: k, Text: text})
				f(d)
			}
		}
		full := logDisk(log, count)
		for k := range maxLater {
			full.Later = append(full.Later, putIn(mixedRecord(k*5%sectors+1, uint64(k))))
		}
		f(full)
	}
}

// eachLogCrash gives crashes of disks with logs. Where there are many unsynced writes, each is lost, kept or torn with all before it kept, and with none or all others kept.
func eachLogCrash(f func(d impl.Disk, kept []int, torn int, bytes int)) {
	eachLog(func(d impl.Disk) {
		many := len(d.Later)
		f(d, nil, -1, 0)
		f(d, numbersFrom(0, many), -1, 0)
		for torn := range many {
			f(d, numbersFrom(0, torn), -1, 0)
			f(d, slices.Delete(numbersFrom(0, many), torn, torn+1), -1, 0)
			for _, bytes := range []int{0, 1, 8, 15, 16} {
				f(d, nil, torn, bytes)
				f(d, numbersFrom(0, torn), torn, bytes)
				f(d, slices.Delete(numbersFrom(0, many), torn, torn+1), torn, bytes)
			}
		}
	})
}

func checkLog(t *testing.T, d impl.Disk, want []impl.Record) {
	t.Helper()
	if log, ok := impl.ReadLog(d); !ok || !slices.Equal(log, want) {
		t.Fatalf("ReadLog %#v: %v %v, not %v", d, log, ok, want)
	}
	next, ok := impl.NextNo(d)
	if len(want) == sectors {
		refuse(t, "NextNo", isZero, next, ok, d)
	} else if next != len(want)+1 || !ok {
		t.Fatalf("NextNo %#v: %d %v, not %d", d, next, ok, len(want)+1)
	}
}

func TestKnownChecksums(t *testing.T) {
	high := strings.Repeat("\xff", 8)
	for s, want := range map[string]int{
		"": 0, "a": 97, "\x00": 0, "\x80": 128, "\xff": 255, "ab": 293, "ba": 292, "é": 533, "01100050007": 3285,
		high + "\x58": 9972, high + "\x57\x01": 0, high + "\x56\x02": 1, high + "\xff\xff\xff\xff": 9917,
		strings.Repeat("\x00", 60): 0, strings.Repeat("0", 60): 8056, strings.Repeat("\xff", 60): 7892, strings.Repeat("\x00", 59) + "\x01": 60,
	} {
		if sum, ok := impl.SumOf(s); sum != want || !ok {
			t.Errorf("%q %d %v, not %d", s, sum, ok, want)
		}
	}
}

// Every byte alone, in every place, and strings of all lengths.
func TestSumOf(t *testing.T) {
	check := func(s string) {
		t.Helper()
		if sum, ok := impl.SumOf(s); sum != sumIn(s) || !ok {
			t.Fatalf("%q %d %v", s, sum, ok)
		}
	}
	for b := range 256 {
		for at := range maxSummed {
			check(strings.Repeat("\x00", at) + string([]byte{byte(b)}))
			check(strings.Repeat("\x00", at) + string([]byte{byte(b)}) + strings.Repeat("\x00", maxSummed-1-at))
		}
	}
	for long := range maxSummed + 1 {
		check(countingText(long))
		for _, b := range []string{"\x00", "\x01", "0", "9", "\x7f", "\x80", "\xff"} {
			check(strings.Repeat(b, long))
		}
		for seed := range 20 {
			check(mixedText(long, uint64(long*100+seed)))
		}
	}
}

func TestSumOfRefusesLongStrings(t *testing.T) {
	for _, long := range []int{61, 62, 64, 96, 100, 192, 256, 1000, 1 << 16} {
		for _, s := range []string{strings.Repeat("\x00", long), strings.Repeat("a", long), strings.Repeat("\xff", long), mixedText(long, 1)} {
			sum, ok := impl.SumOf(s)
			refuse(t, "SumOf", isZero, sum, ok, long)
		}
	}
}

// Worked out apart from the program.
func TestKnownRecords(t *testing.T) {
	for text, r := range map[string]impl.Record{
		"011000500073285;": {No: 1, Kind: 1, A: 5, B: 7},
		"011000000003173;": {No: 1, Kind: 1, A: 0, B: 0},
		"129999999993740;": {No: 12, Kind: 9, A: 9999, B: 9999},
		"099999999993753;": {No: 9, Kind: 9, A: 9999, B: 9999},
		"121000099993518;": {No: 12, Kind: 1, A: 0, B: 9999},
		"019999900003395;": {No: 1, Kind: 9, A: 9999, B: 0},
		"105000100103201;": {No: 10, Kind: 5, A: 1, B: 10},
		"023010010003194;": {No: 2, Kind: 3, A: 100, B: 1000},
		"112123456783489;": {No: 11, Kind: 2, A: 1234, B: 5678},
		"077007007003308;": {No: 7, Kind: 7, A: 70, B: 700},
	} {
		if s, ok := impl.RecordText(r); s != text || !ok {
			t.Errorf("RecordText %v %q %v, not %q", r, s, ok, text)
		}
		if x, ok := impl.ReadRecord(text); x != r || !ok {
			t.Errorf("ReadRecord %q %v %v, not %v", text, x, ok, r)
		}
	}
}

// Promise 10: decoding the encoding of a record returns the record.
func TestRecords(t *testing.T) {
	check := func(r impl.Record) {
		t.Helper()
		s, ok := impl.RecordText(r)
		if s != recordIn(r) || len(s) != sectorLong || !ok {
			t.Fatalf("RecordText %v %q %v", r, s, ok)
		}
		if x, ok := impl.ReadRecord(s); x != r || !ok {
			t.Fatalf("ReadRecord %q %v %v, not %v", s, x, ok, r)
		}
	}
	eachRecord(check)
	for n := range 10000 {
		check(impl.Record{No: n%sectors + 1, Kind: n%9 + 1, A: n, B: 9999 - n})
	}
}

func TestRecordTextRefusesOtherRecords(t *testing.T) {
	for _, r := range badRecords() {
		s, ok := impl.RecordText(r)
		refuse(t, "RecordText", isNoText, s, ok, r)
	}
}

func checkReading(t *testing.T, s string) {
	t.Helper()
	r, ok := impl.ReadRecord(s)
	want, is := readRecordIn(s)
	if r != want || ok != is {
		t.Fatalf("%q %v %v, not %v %v", s, r, ok, want, is)
	}
}

func refuseReadingRecord(t *testing.T, s string) {
	t.Helper()
	r, ok := impl.ReadRecord(s)
	refuse(t, "ReadRecord", isNoRecord, r, ok, s)
}

// Another byte in one place: a letter, a space, a sign, a byte above 127, another digit or another last byte. A changed digit changes the checksum.
func TestReadRecordRefusesEveryChangedByte(t *testing.T) {
	for _, r := range someRecords() {
		good := recordIn(r)
		for at := range sectorLong {
			for b := range 256 {
				if byte(b) != good[at] {
					refuseReadingRecord(t, good[:at]+string([]byte{byte(b)})+good[at+1:])
				}
			}
		}
	}
}

// With the right checksum of the changed bytes: only digits in the limits are accepted.
func TestReadRecordOfOtherBytesWithRightSums(t *testing.T) {
	for _, r := range someRecords() {
		good := recordIn(r)
		for at := range 11 {
			for b := range 256 {
				s := withSum(good[:at] + string([]byte{byte(b)}) + good[at+1:11])
				checkReading(t, s)
				if b < '0' || b > '9' {
					refuseReadingRecord(t, s)
				}
			}
		}
	}
}

// Forms of numbers that a more lenient reader might take.
func TestReadRecordRefusesOtherNumbersWithRightSums(t *testing.T) {
	for _, data := range []string{
		"+1100050007", " 1100050007", "1 100050007", "-1100050007", "\x001100050007", "0x100050007", "_1100050007", "1.100050007", "1e100050007",
		"01+00050007", "01-00050007", "01 00050007", "01\x0000050007",
		"011+0050007", "011-0050007", "011   50007", "0115   0007", "0110x050007", "0115e000007", "0111_000007", "0115.000007", "011-0000007",
		"0110005+007", "0110005-007", "0110005   7", "01100057   ", "01100050x07", "01100057e00", "01100051_00", "01100057.00", "0110005-000",
		"٠١100050007"[:11], "é1100050007"[:11], "           ", "+++++++++++", "-----------", "\x00\x00\x00\x00\x00\x00\x00\x00\x00\x00\x00", "\xff\xff\xff\xff\xff\xff\xff\xff\xff\xff\xff",
	} {
		if len(data) != 11 {
			t.Fatalf("%q has %d bytes", data, len(data))
		}
		refuseReadingRecord(t, withSum(data))
	}
}

// All numbers that two digits and one can show.
func TestReadRecordOfOtherNumbersWithRightSums(t *testing.T) {
	for no := range 100 {
		for kind := range 10 {
			s := withSum(fmt.Sprintf("%02d%d%s", no, kind, "00050007"))
			checkReading(t, s)
			if no < 1 || no > 12 || kind < 1 {
				refuseReadingRecord(t, s)
			}
		}
	}
}

// All checksums that four digits can show, of which one is right.
func TestReadRecordRefusesOtherSums(t *testing.T) {
	for _, r := range someRecords() {
		data := recordIn(r)[:11]
		for sum := range 10000 {
			s := fmt.Sprintf("%s%04d;", data, sum)
			if sum == sumIn(data) {
				checkReading(t, s)
			} else {
				refuseReadingRecord(t, s)
			}
		}
	}
}

func TestReadRecordRefusesOtherLengths(t *testing.T) {
	for _, s := range badTexts {
		refuseReadingRecord(t, s)
	}
	for _, r := range someRecords() {
		good := recordIn(r)
		for long := range sectorLong {
			refuseReadingRecord(t, good[:long])
			refuseReadingRecord(t, good[sectorLong-long:])
		}
		for _, more := range []string{"\x00", "\n", " ", "0", ";", "\xff", good} {
			refuseReadingRecord(t, good+more)
			refuseReadingRecord(t, more+good)
		}
		refuseReadingRecord(t, good[1:])
		refuseReadingRecord(t, fmt.Sprintf("%d%s", r.No%10, withSum(good[2:11])))
	}
}

func TestReadRecordOfMixedStrings(t *testing.T) {
	for seed := range uint64(2000) {
		digits := []byte(mixedSector(seed))
		for k := range digits {
			digits[k] = digits[k]%10 + '0'
		}
		for _, s := range []string{mixedSector(seed), string(digits), string(digits[:15]) + ";", withSum(string(digits[:11])), withSum("0" + string(digits[1:11]))} {
			checkReading(t, s)
		}
	}
}

func refuseAppend(t *testing.T, d impl.Disk, r impl.Record) {
	t.Helper()
	next, ok := impl.Append(d, r.No, r.Kind, r.A, r.B)
	refuse(t, "Append", isNoDisk, next, ok, d, r)
}

// Whatever the sectors before it have, and up to 39 unsynced writes.
func TestAppend(t *testing.T) {
	check := func(d impl.Disk) {
		for _, r := range someRecords() {
			if len(d.Later) == maxLater {
				refuseAppend(t, d, r)
				continue
			}
			next, ok := impl.Append(d, r.No, r.Kind, r.A, r.B)
			want := cloneDisk(d)
			want.Later = append(want.Later, putIn(r))
			if !ok || !equalDisks(next, want) || !impl.GoodDisk(next) {
				t.Fatalf("%#v %v %#v %v", d, r, next, ok)
			}
		}
	}
	eachDisk(check)
	eachLog(check)
	eachRecord(func(r impl.Record) {
		next, ok := impl.Append(blankDisk(), r.No, r.Kind, r.A, r.B)
		if want := (impl.Disk{Sure: blankDisk().Sure, Later: []impl.Put{putIn(r)}}); !ok || !equalDisks(next, want) {
			t.Fatalf("%v %#v %v", r, next, ok)
		}
	})
}

// A record with a number that is not the next one is written as well; of two with one number the later one counts.
func TestAppendInAnyOrder(t *testing.T) {
	for _, x := range []struct {
		records []impl.Record
		want    []int
	}{
		{nil, nil},
		{[]impl.Record{{No: 1, Kind: 1, A: 5, B: 7}}, []int{0}},
		{[]impl.Record{{No: 2, Kind: 1, A: 5, B: 7}}, nil},
		{[]impl.Record{{No: 12, Kind: 9, A: 9999, B: 9999}}, nil},
		{[]impl.Record{{No: 1, Kind: 1, A: 5, B: 7}, {No: 1, Kind: 2, A: 6, B: 8}}, []int{1}},
		{[]impl.Record{{No: 1, Kind: 2, A: 6, B: 8}, {No: 1, Kind: 1, A: 5, B: 7}, {No: 1, Kind: 2, A: 6, B: 8}}, []int{2}},
		{[]impl.Record{{No: 1, Kind: 1, A: 5, B: 7}, {No: 2, Kind: 2, A: 6, B: 8}}, []int{0, 1}},
		{[]impl.Record{{No: 2, Kind: 2, A: 6, B: 8}, {No: 1, Kind: 1, A: 5, B: 7}}, []int{1, 0}},
		{[]impl.Record{{No: 1, Kind: 1, A: 5, B: 7}, {No: 3, Kind: 2, A: 6, B: 8}}, []int{0}},
		{[]impl.Record{{No: 3, Kind: 2, A: 6, B: 8}, {No: 1, Kind: 1, A: 5, B: 7}, {No: 2, Kind: 3, A: 0, B: 0}}, []int{1, 2, 0}},
		{[]impl.Record{{No: 1, Kind: 1, A: 5, B: 7}, {No: 3, Kind: 2, A: 6, B: 8}, {No: 4, Kind: 2, A: 6, B: 8}, {No: 1, Kind: 9, A: 1, B: 1}}, []int{3}},
	} {
		d := impl.NewDisk()
		for _, r := range x.records {
			next, ok := impl.Append(d, r.No, r.Kind, r.A, r.B)
			if !ok {
				t.Fatal(x, r)
			}
			d = next
		}
		var want []impl.Record
		for _, k := range x.want {
			want = append(want, x.records[k])
		}
		checkLog(t, d, want)
		synced, _ := impl.SyncDisk(d)
		checkLog(t, synced, want)
	}
}

// A log of twelve records, of which each is read at once, and NextNo gives the number of the next one.
func TestAppendUntilTheLogIsFull(t *testing.T) {
	log := mixedLog(sectors, 3)
	for _, isSynced := range []bool{false, true} {
		d := impl.NewDisk()
		for k, r := range log {
			checkLog(t, d, log[:k])
			no, _ := impl.NextNo(d)
			next, ok := impl.Append(d, no, r.Kind, r.A, r.B)
			if !ok || no != k+1 {
				t.Fatal(isSynced, k, no, ok)
			}
			if d = next; isSynced {
				d, _ = impl.SyncDisk(d)
			}
		}
		checkLog(t, d, log)
	}
}

func TestAppendRefusesOtherRecords(t *testing.T) {
	for _, r := range badRecords() {
		for _, d := range []impl.Disk{blankDisk(), mixedDisk(1, 0, 11), logDisk(mixedLog(12, 1), 12), logDisk(mixedLog(5, 1), 2), mixedDisk(2, make([]int, 40)...)} {
			refuseAppend(t, d, r)
		}
	}
}

func TestAppendRefusesAFullDisk(t *testing.T) {
	d := impl.NewDisk()
	for k := range maxLater {
		next, ok := impl.Append(d, k%sectors+1, 1, k, 0)
		if !ok || len(next.Later) != k+1 {
			t.Fatal(k, ok)
		}
		d = next
	}
	for _, r := range someRecords() {
		refuseAppend(t, d, r)
	}
	synced, _ := impl.SyncDisk(d)
	if next, ok := impl.Append(synced, 12, 9, 9999, 9999); !ok || len(next.Later) != 1 {
		t.Fatalf("%#v %v", next, ok)
	}
}

func TestReadLog(t *testing.T) {
	eachLog(func(d impl.Disk) { checkLog(t, d, logIn(d)) })
	eachDisk(func(d impl.Disk) { checkLog(t, d, logIn(d)) })
}

func TestLogsOfAllLengths(t *testing.T) {
	checkLog(t, impl.NewDisk(), nil)
	for count := range sectors + 1 {
		log := mixedLog(count, 5)
		for durable := range count + 1 {
			checkLog(t, logDisk(log, durable), log)
		}
	}
}

// Records behind a sector without its own record are not returned, and are there again when the gap is closed.
func TestRecordsBehindAGap(t *testing.T) {
	for count := range sectors + 1 {
		log := mixedLog(count, 6)
		for k, r := range log {
			for _, text := range notRecordsOf(r) {
				d := logDisk(log, count)
				d.Sure[k] = text
				checkLog(t, d, log[:k])
				closed, ok := impl.Append(d, r.No, r.Kind, r.A, r.B)
				if !ok {
					t.Fatalf("%#v %v", d, r)
				}
				checkLog(t, closed, log)
				open, ok := impl.PutSector(logDisk(log, count), k, text)
				if !ok {
					t.Fatalf("%#v %q", d, text)
				}
				checkLog(t, open, log[:k])
			}
		}
	}
}

// A valid record in a sector of another index.
func TestRecordsOfOtherSectors(t *testing.T) {
	log := mixedLog(sectors, 7)
	for at := range sectors {
		for no := 1; no <= sectors; no++ {
			d := logDisk(log, sectors)
			d.Sure[at] = recordIn(mixedRecord(no, 8))
			want := log[:at]
			if no == at+1 {
				want = slices.Concat(want, []impl.Record{mixedRecord(no, 8)}, log[at+1:])
			}
			checkLog(t, d, want)
		}
	}
}

func TestCrashLog(t *testing.T) {
	eachLogCrash(func(d impl.Disk, kept []int, torn int, bytes int) {
		log, ok := impl.CrashLog(d, kept, torn, bytes)
		if want := logIn(crashedIn(d, kept, torn, bytes)); !ok || !slices.Equal(log, want) {
			t.Fatalf("%#v %v %d %d %v %v, not %v", d, kept, torn, bytes, log, ok, want)
		}
	})
}

// Promise 10: without later writes, a crash leaves what was synced.
func TestSyncedLogsSurviveACrash(t *testing.T) {
	for count := range sectors + 1 {
		log := mixedLog(count, 9)
		d := impl.NewDisk()
		for _, r := range log {
			d, _ = impl.Append(d, r.No, r.Kind, r.A, r.B)
		}
		if left, ok := impl.CrashLog(d, nil, -1, 0); !ok || len(left) != 0 {
			t.Fatal("not synced", count, left, ok)
		}
		d, _ = impl.SyncDisk(d)
		if left, ok := impl.CrashLog(d, nil, -1, 0); !ok || !slices.Equal(left, log) {
			t.Fatal("synced", count, left, ok)
		}
	}
	eachLog(func(d impl.Disk) {
		synced, _ := impl.SyncDisk(d)
		before, _ := impl.ReadLog(d)
		if left, ok := impl.CrashLog(synced, nil, -1, 0); !ok || !slices.Equal(left, before) {
			t.Fatalf("%#v %v %v, not %v", d, left, ok, before)
		}
	})
}

// Records behind a synced log that are lost, kept or torn leave the log as it is, with as many of them as are whole one after the other.
func TestCrashesBehindASyncedLog(t *testing.T) {
	for durable := range sectors + 1 {
		log := mixedLog(sectors, 10)
		d := logDisk(log, durable)
		for kept := range sectors - durable + 1 {
			left, ok := impl.CrashLog(d, numbersFrom(0, kept), -1, 0)
			if !ok || !slices.Equal(left, log[:durable+kept]) {
				t.Fatal(durable, kept, left, ok)
			}
		}
		for torn := range sectors - durable {
			for bytes := range sectorLong + 1 {
				want := log[:durable+torn]
				if bytes == sectorLong {
					want = log[:durable+torn+1]
				}
				left, ok := impl.CrashLog(d, numbersFrom(0, torn), torn, bytes)
				if !ok || !slices.Equal(left, want) {
					t.Fatal(durable, torn, bytes, left, ok)
				}
				// The records after the torn one are kept, but lie behind a gap unless it is whole.
				if bytes == sectorLong {
					want = log
				}
				left, ok = impl.CrashLog(d, slices.Delete(numbersFrom(0, sectors-durable), torn, torn+1), torn, bytes)
				if !ok || !slices.Equal(left, want) {
					t.Fatal("kept behind", durable, torn, bytes, left, ok)
				}
			}
		}
	}
}

// Worked out apart from the program. Both records end with `5;`, so that the first 14 bytes of one over the other are the whole one.
func TestRecordsTornOverOthers(t *testing.T) {
	first, second := impl.Record{No: 1, Kind: 1, A: 5, B: 7}, impl.Record{No: 1, Kind: 9, A: 9999, B: 0}
	for _, x := range []struct {
		durable string
		later   []impl.Put
		kept    []int
		torn    int
		bytes   int
		want    []impl.Record
	}{
		{recordIn(first), []impl.Put{putIn(second)}, nil, -1, 0, []impl.Record{first}},
		{recordIn(first), []impl.Put{putIn(second)}, []int{0}, -1, 0, []impl.Record{second}},
		{recordIn(first), []impl.Put{putIn(second)}, nil, 0, 0, []impl.Record{first}},
		{recordIn(first), []impl.Put{putIn(second)}, nil, 0, 1, []impl.Record{first}},
		{recordIn(first), []impl.Put{putIn(second)}, nil, 0, 2, []impl.Record{first}},
		{recordIn(first), []impl.Put{putIn(second)}, nil, 0, 3, nil},
		{recordIn(first), []impl.Put{putIn(second)}, nil, 0, 11, nil},
		{recordIn(first), []impl.Put{putIn(second)}, nil, 0, 13, nil},
		{recordIn(first), []impl.Put{putIn(second)}, nil, 0, 14, []impl.Record{second}},
		{recordIn(first), []impl.Put{putIn(second)}, nil, 0, 15, []impl.Record{second}},
		{recordIn(first), []impl.Put{putIn(second)}, nil, 0, 16, []impl.Record{second}},
		{recordIn(first), []impl.Put{putIn(first)}, nil, 0, 7, []impl.Record{first}},
		{strings.Repeat("\x00", 16), []impl.Put{putIn(first)}, nil, 0, 15, nil},
		{strings.Repeat(";", 16), []impl.Put{putIn(first)}, nil, 0, 15, []impl.Record{first}},
		{strings.Repeat(";", 16), []impl.Put{putIn(first)}, nil, 0, 14, nil},
		{strings.Repeat("\x00", 16), []impl.Put{putIn(first), putIn(second)}, []int{0}, 1, 15, []impl.Record{second}},
		{strings.Repeat("\x00", 16), []impl.Put{putIn(first), putIn(second)}, []int{1}, 0, 15, []impl.Record{second}},
		{strings.Repeat("\x00", 16), []impl.Put{putIn(first), putIn(second)}, nil, 1, 15, nil},
		{strings.Repeat("\x00", 16), []impl.Put{putIn(first), putIn(second)}, []int{0}, 1, 5, nil},
	} {
		d := blankDisk()
		d.Sure[0], d.Later = x.durable, x.later
		if log, ok := impl.CrashLog(d, x.kept, x.torn, x.bytes); !ok || !slices.Equal(log, x.want) {
			t.Errorf("%#v %v %v", x, log, ok)
		}
	}
}

// Promise 10, for whole runs: appends, syncs and crashes. The records of the last sync outlast them.
func TestRunsOfALog(t *testing.T) {
	for seed := range uint64(60) {
		d := impl.NewDisk()
		var durable []impl.Record
		for _, n := range mixedRows(30, 120, seed+1000) {
			switch kind := n % 8; {
			case kind == 0:
				d, _ = impl.SyncDisk(d)
				durable, _ = impl.ReadLog(d)
				if left, ok := impl.CrashLog(d, nil, -1, 0); !ok || !slices.Equal(left, durable) {
					t.Fatalf("%d %#v %v %v", seed, d, left, ok)
				}
			case kind == 1:
				kept, torn, bytes := mixedCrash(n, len(d.Later))
				left, ok := impl.CrashLog(d, kept, torn, bytes)
				if d, _ = impl.CrashDisk(d, kept, torn, bytes); !ok || !slices.Equal(left, logIn(d)) {
					t.Fatalf("%d %#v %v %v", seed, d, left, ok)
				}
				if len(left) < len(durable) || !slices.Equal(left[:len(durable)], durable) {
					t.Fatalf("lost %d %v %v", seed, durable, left)
				}
				durable = left
			default:
				no, ok := impl.NextNo(d)
				if !ok {
					d, durable = impl.NewDisk(), nil
					continue
				}
				r := mixedRecord(no, uint64(n))
				log, _ := impl.ReadLog(d)
				d, _ = impl.Append(d, no, r.Kind, r.A, r.B)
				if got, ok := impl.ReadLog(d); !ok || !slices.Equal(got[:no], append(log, r)) {
					t.Fatalf("%d %#v %v %v", seed, d, got, ok)
				}
			}
			checkLog(t, d, logIn(d))
		}
	}
}

func isZero(n int) bool {
	return n == 0
}

func isNoRecord(r impl.Record) bool {
	return r == impl.Record{}
}

func isNoLog(l []impl.Record) bool {
	return len(l) == 0
}

func refuseCrashLog(t *testing.T, d impl.Disk, kept []int, torn int, bytes int) {
	t.Helper()
	log, ok := impl.CrashLog(d, kept, torn, bytes)
	refuse(t, "CrashLog", isNoLog, log, ok, d, kept, torn, bytes)
}

// refuseLog gives an invalid disk to the functions that take one besides CrashLog.
func refuseLog(t *testing.T, d impl.Disk) {
	t.Helper()
	for _, no := range []int{1, 2, 12} {
		refuseAppend(t, d, mixedRecord(no, 11))
	}
	log, ok := impl.ReadLog(d)
	refuse(t, "ReadLog", isNoLog, log, ok, d)
	next, ok := impl.NextNo(d)
	refuse(t, "NextNo", isZero, next, ok, d)
}

// Every kind of invalid disk, with a log that would be read if the disk were not checked.
func TestLogsOnInvalidDisksAreRefused(t *testing.T) {
	for _, count := range []int{0, 1, 3, 11, 12} {
		for _, durable := range []int{0, count / 2, count} {
			spoil := func(change func(d *impl.Disk)) {
				d := logDisk(mixedLog(count, 12), durable)
				change(&d)
				refuseDisk(t, d)
			}
			for _, at := range []int{0, count / 2, 11} {
				for _, text := range badTexts {
					spoil(func(d *impl.Disk) { d.Sure[at] = text })
					spoil(func(d *impl.Disk) { d.Later = append(d.Later, impl.Put{At: at, Text: text}) })
				}
				spoil(func(d *impl.Disk) { d.Sure = slices.Delete(d.Sure, at, at+1) })
				spoil(func(d *impl.Disk) { d.Sure = slices.Insert(d.Sure, at, mixedSector(13)) })
			}
			spoil(func(d *impl.Disk) { d.Sure = nil })
			spoil(func(d *impl.Disk) { d.Sure = append(d.Sure, recordIn(mixedRecord(12, 12))) })
			spoil(func(d *impl.Disk) { d.Sure[11] = recordIn(mixedRecord(12, 12)) + ";" })
			for _, at := range badAts {
				spoil(func(d *impl.Disk) { d.Later = append(d.Later, impl.Put{At: at, Text: recordIn(mixedRecord(1, 12))}) })
			}
			spoil(func(d *impl.Disk) { d.Later = append(d.Later, mixedDisk(14, slices.Repeat([]int{11}, 41)...).Later...) })
		}
	}
}

// A crash that is not valid leaves no log, whatever the disk has.
func TestInvalidCrashesOfLogsAreRefused(t *testing.T) {
	for _, durable := range []int{0, 2, 5} {
		d := logDisk(mixedLog(5, 15), durable)
		many := len(d.Later)
		for _, kept := range [][]int{{0, 0}, {1, 0}, {-1}, {many}, {0, many}, {math.MinInt}, {math.MaxInt}, numbersFrom(0, many+1), slices.Repeat([]int{0}, 1000)} {
			refuseCrashLog(t, d, kept, -1, 0)
			refuseCrashLog(t, d, kept, 0, 3)
		}
		for _, torn := range []int{math.MinInt, -3, -2, many, many + 1, 40, math.MaxInt} {
			for _, bytes := range []int{0, 1, 16} {
				refuseCrashLog(t, d, nil, torn, bytes)
			}
		}
		for _, bytes := range []int{math.MinInt, -1, 1, 15, 16, 17, math.MaxInt} {
			refuseCrashLog(t, d, nil, -1, bytes)
		}
		for torn := range many {
			refuseCrashLog(t, d, []int{torn}, torn, 3)
			refuseCrashLog(t, d, numbersFrom(0, many), torn, 16)
			for _, bytes := range []int{math.MinInt, -16, -1, 17, 32, math.MaxInt} {
				refuseCrashLog(t, d, nil, torn, bytes)
			}
		}
	}
}

// logCall holds what the functions of the chapter that take a disk return.
type logCall struct {
	disk impl.Disk
	logs [2][]impl.Record
	next int
	oks  [4]bool
}

func callLog(d impl.Disk, r impl.Record, kept []int, torn int, bytes int) logCall {
	var x logCall
	x.disk, x.oks[0] = impl.Append(d, r.No, r.Kind, r.A, r.B)
	x.logs[0], x.oks[1] = impl.ReadLog(d)
	x.next, x.oks[2] = impl.NextNo(d)
	x.logs[1], x.oks[3] = impl.CrashLog(d, kept, torn, bytes)
	return x
}

func equalCalls(a logCall, b logCall) bool {
	return equalDisks(a.disk, b.disk) && slices.Equal(a.logs[0], b.logs[0]) && slices.Equal(a.logs[1], b.logs[1]) && a.next == b.next && a.oks == b.oks
}

// eachLogCall gives valid arguments and invalid ones.
func eachLogCall(f func(d impl.Disk, r impl.Record, kept []int, torn int, bytes int)) {
	eachLog(func(d impl.Disk) {
		many := len(d.Later)
		f(d, mixedRecord(many%sectors+1, 16), numbersFrom(0, many), -1, 0)
		f(d, mixedRecord(many%sectors+1, 16), numbersFrom(0, many/2), many-1, min(many, 15))
	})
	eachDiskCall(func(d impl.Disk, at int, _ string, kept []int, torn int, bytes int) {
		f(d, impl.Record{No: at, Kind: 1, A: 9999, B: bytes}, kept, torn, bytes)
	})
}

// Promise 19: the disk and the list are neither changed nor read behind their lengths.
func TestLogsAreLeftAlone(t *testing.T) {
	eachLogCall(func(d impl.Disk, r impl.Record, kept []int, torn int, bytes int) {
		disk, wholeDisk := diskWithTails(d)
		list, wholeList := withTail(kept)
		diskBefore, listBefore := cloneDisk(wholeDisk), slices.Clone(wholeList)
		got := callLog(disk, r, list, torn, bytes)
		if !equalDisks(wholeDisk, diskBefore) || !slices.Equal(wholeList, listBefore) {
			t.Fatalf("changed %#v %v %v %d %d: %#v %v", d, r, kept, torn, bytes, wholeDisk, wholeList)
		}
		clean := impl.Disk{Sure: slices.Clip(slices.Clone(d.Sure)), Later: slices.Clip(slices.Clone(d.Later))}
		if want := callLog(clean, r, slices.Clip(slices.Clone(kept)), torn, bytes); !equalCalls(got, want) {
			t.Fatalf("read behind the length %#v %v %v %d %d: %#v %#v", d, r, kept, torn, bytes, got, want)
		}
	})
}

// What is returned may be overwritten without effect on the argument or on other results; and so may the argument.
func TestLogsShareNoMemory(t *testing.T) {
	eachLog(func(d impl.Disk) {
		many := len(d.Later)
		disk, whole := diskWithTails(d)
		kept := numbersFrom(0, many)
		before := cloneDisk(whole)
		call := func() logCall { return callLog(disk, mixedRecord(12, 17), kept, -1, 0) }
		first, second := call(), call()
		overwriteDisk(first.disk)
		overwriteRecords(first.logs[0])
		if third := call(); !equalDisks(whole, before) || !slices.Equal(kept, numbersFrom(0, many)) || !slices.Equal(first.logs[1], third.logs[1]) || !equalCalls(second, third) {
			t.Fatalf("shared %#v %#v %#v", d, second, third)
		}
		overwriteRecords(first.logs[1])
		want := call()
		overwriteDisk(disk)
		overwrite(kept)
		if !equalCalls(second, want) || !slices.Equal(want.logs[0], logIn(d)) {
			t.Fatalf("shared with the argument %#v %#v %#v", d, second, want)
		}
	})
}

func overwriteRecords(l []impl.Record) {
	room := l[:cap(l)]
	for k := range room {
		room[k] = impl.Record{No: -7, Kind: -7, A: -7, B: -7}
	}
}

// Two records for one disk, of which neither shows in the other's result.
func TestAppendsToOneDiskAreApart(t *testing.T) {
	for many := range maxLater {
		d := impl.NewDisk()
		for k := range many {
			d, _ = impl.Append(d, k%sectors+1, 1, k, k)
		}
		a, _ := impl.Append(d, 1, 2, 3, 4)
		b, _ := impl.Append(d, 1, 5, 6, 7)
		first, _ := impl.ReadLog(a)
		second, _ := impl.ReadLog(b)
		if first[0] != (impl.Record{No: 1, Kind: 2, A: 3, B: 4}) || second[0] != (impl.Record{No: 1, Kind: 5, A: 6, B: 7}) || len(d.Later) != many {
			t.Fatal(many, first, second, len(d.Later))
		}
	}
}
