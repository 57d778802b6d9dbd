package impl

import (
	"strconv"
	"strings"
)

const MaxRank = 3
const MaxCells = 1000
const MaxValue = 3000000000

const Domain = 1
const Rank = 2
const Length = 3
const Index = 4
const Overflow = 5
const Limit = 6
const BadArray = 9

const maxArrayText = 20000

// Array is described in the document.
type Array struct {
	Shape []int
	Data  []int
}

// ArrayOk says whether an array is valid.
func ArrayOk(a Array) bool {
	if !shapeFits(a.Shape) || len(a.Data) != cellCount(a.Shape) {
		return false
	}
	for _, cell := range a.Data {
		if !valueFits(cell) {
			return false
		}
	}
	return true
}

// ArrayText writes an array.
func ArrayText(a Array) (string, bool) {
	if !ArrayOk(a) {
		return "", false
	}
	return numbersText(a.Shape) + ":" + numbersText(a.Data), true
}

// ParseArray reads an array.
func ParseArray(text string) (Array, int) {
	if len(text) > maxArrayText {
		return Array{}, 1
	}
	lengths, cells, _ := strings.Cut(text, ":")
	shape, shapeRead := readNumbers(lengths)
	data, dataRead := readNumbers(cells)
	if !shapeRead || !dataRead {
		return Array{}, 1
	}
	// strconv takes more than the document does (a plus sign, zeros in front),
	// so what was read must be written as the very text.
	a := Array{Shape: shape, Data: data}
	if back, ok := ArrayText(a); !ok || back != text {
		return Array{}, 1
	}
	return a, 0
}

// shapeFits says whether a valid array can have these lengths. Each length is
// looked at ahead of their product, which then stays far inside an int.
func shapeFits(shape []int) bool {
	if len(shape) > MaxRank {
		return false
	}
	for _, length := range shape {
		if length < 0 || length > MaxCells {
			return false
		}
	}
	return cellCount(shape) <= MaxCells
}

func valueFits(value int) bool {
	return -MaxValue <= value && value <= MaxValue
}

// cellCount is asked only for lengths that were looked at already, and for
// parts of a valid shape: those can have more than MaxCells cells where
// another length is 0.
func cellCount(shape []int) int {
	product := 1
	for _, length := range shape {
		product *= length
	}
	return product
}

func numbersText(numbers []int) string {
	words := make([]string, len(numbers))
	for i, number := range numbers {
		words[i] = strconv.Itoa(number)
	}
	return strings.Join(words, " ")
}

func readNumbers(text string) ([]int, bool) {
	if text == "" {
		return nil, true
	}
	words := strings.Split(text, " ")
	numbers := make([]int, len(words))
	for i, word := range words {
		number, err := strconv.Atoi(word)
		if err != nil {
			return nil, false
		}
		numbers[i] = number
	}
	return numbers, true
}
