// Package wire is what messages' bodies have alike, whoever says them: texts, numbers, lists and cells.
package wire

import (
	"remuda/api"
	"remuda/num"
)

// Sizes in bytes: of how many a list has, and of how long a cell is.
const (
	countSize  = 2
	lengthSize = 4
)

// nullLength stands where a cell that is none would say how long it is.
const nullLength = 1<<32 - 1

// Texts answers texts, each with a byte 0 behind.
func Texts(texts ...string) []byte {
	var b []byte
	for _, s := range texts {
		b = append(append(b, s...), 0)
	}
	return b
}

// List answers how many list has, and what each answers of every one.
func List[T any](list []T, each func(T) []byte) []byte {
	b := num.Put(nil, len(list), countSize)
	for _, x := range list {
		b = append(b, each(x)...)
	}
	return b
}

// Numbers answers a list of numbers of size bytes.
func Numbers(size int, list []int) []byte {
	return List(list, func(n int) []byte { return num.Put(nil, n, size) })
}

// Cells answers a list of cells.
func Cells(list []api.Cell) []byte {
	return List(list, cell)
}

func cell(c api.Cell) []byte {
	if c.Null {
		return num.Put(nil, nullLength, lengthSize)
	}
	return append(num.Put(nil, len(c.Bytes), lengthSize), c.Bytes...)
}
