package impl

// MaxBits is the greatest width of a row.
const MaxBits = 16

// maxRows is the greatest number of rows in a list of rows.
const maxRows = 20

// The values of single bits. bit16 lies in no row; it is the bound of the
// widest rows.
const (
	bit0 = 1 << iota
	bit1
	bit2
	bit3
	bit4
	bit5
	bit6
	bit7
	bit8
	bit9
	bit10
	bit11
	bit12
	bit13
	bit14
	bit15
	bit16
)

// bitValues holds 2^k at index k, for the bits of a row as well as for the
// bound of the rows of each width.
var bitValues = [MaxBits + 1]int{
	bit0, bit1, bit2, bit3, bit4, bit5, bit6, bit7,
	bit8, bit9, bit10, bit11, bit12, bit13, bit14, bit15,
	bit16,
}

// GoodRow reports whether wide is a width and row is a row of that width.
func GoodRow(wide int, row int) bool {
	return goodWidth(wide) && row >= 0 && row < bitValues[wide]
}

// AddRows returns the sum of a and b over GF(2).
func AddRows(wide int, a int, b int) (int, bool) {
	if !GoodRow(wide, a) || !GoodRow(wide, b) {
		return 0, false
	}
	return a ^ b, true
}

// WeightOf returns the number of bits of row that are 1.
func WeightOf(wide int, row int) (int, bool) {
	if !GoodRow(wide, row) {
		return 0, false
	}
	return countBits(wide, row), true
}

// DotOf returns the inner product of a and b over GF(2).
func DotOf(wide int, a int, b int) (int, bool) {
	if !GoodRow(wide, a) || !GoodRow(wide, b) {
		return 0, false
	}
	return countBits(wide, a&b) % 2, true
}

// BitsIn returns the indexes of the bits of row that are 1, increasing.
func BitsIn(wide int, row int) ([]int, bool) {
	if !GoodRow(wide, row) {
		return nil, false
	}
	var bits []int
	for k := range wide {
		if row&bitValues[k] != 0 {
			bits = append(bits, k)
		}
	}
	return bits, true
}

// RowOf returns the row whose 1 bits have the indexes in bits.
func RowOf(wide int, bits []int) (int, bool) {
	if !goodWidth(wide) || !risingIndexes(bits, wide) {
		return 0, false
	}
	row := 0
	for _, k := range bits {
		row |= bitValues[k]
	}
	return row, true
}

// SumRows returns the sum over GF(2) of the rows with the indexes in some.
func SumRows(wide int, rows []int, some []int) (int, bool) {
	if !goodRows(wide, rows) || !risingIndexes(some, len(rows)) {
		return 0, false
	}
	sum := 0
	for _, k := range some {
		sum ^= rows[k]
	}
	return sum, true
}

// FarApart returns the Hamming distance of a and b.
func FarApart(wide int, a int, b int) (int, bool) {
	if !GoodRow(wide, a) || !GoodRow(wide, b) {
		return 0, false
	}
	return countBits(wide, a^b), true
}

func goodWidth(wide int) bool {
	return wide >= 1 && wide <= MaxBits
}

// goodRows checks the width on its own because a list of no rows has a width too.
func goodRows(wide int, rows []int) bool {
	if !goodWidth(wide) || len(rows) > maxRows {
		return false
	}
	for _, row := range rows {
		if !GoodRow(wide, row) {
			return false
		}
	}
	return true
}

// risingIndexes reports whether list is strictly increasing within 0..count-1.
func risingIndexes(list []int, count int) bool {
	least := 0
	for _, k := range list {
		if k < least || k >= count {
			return false
		}
		least = k + 1
	}
	return true
}

// countBits takes a row that has already been checked.
func countBits(wide int, row int) int {
	count := 0
	for k := range wide {
		if row&bitValues[k] != 0 {
			count++
		}
	}
	return count
}
