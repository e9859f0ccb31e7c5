package impl

import (
	"errors"
	"strconv"
)

// netPart is by how much the first of an address's two numbers counts, and what each of them is below.
const netPart = 256

// noNumber stands for a number of which no figure is read yet.
const noNumber = -1

// textFault is what is wrong with a text.
type textFault string

func (f textFault) Error() string {
	return string(f)
}

// NetAddrText writes an address.
func NetAddrText(addr int) string {
	if !isAddr(addr) {
		return ""
	}
	return strconv.Itoa(addr/netPart) + "." + strconv.Itoa(addr%netPart)
}

// NetAddr reads an address, -1 if it is none.
func NetAddr(text string) int {
	addr, err := readAddr(text)
	if isTextFault(err) {
		return -1
	}
	return addr
}

// NetText writes a prefix.
func NetText(p NetPrefix) string {
	if !p.ok() {
		return ""
	}
	return NetAddrText(p.Addr) + "/" + strconv.Itoa(p.Len)
}

// NetParse reads a prefix.
func NetParse(text string) (NetPrefix, bool) {
	p, err := readPrefix(text)
	if isTextFault(err) {
		return NetPrefix{}, false
	}
	return p, true
}

func isTextFault(err error) bool {
	var fault textFault
	return errors.As(err, &fault)
}

func readAddr(text string) (int, error) {
	numbers, err := readNumbers(text, '.')
	if err != nil {
		return 0, err
	}
	return joinAddr(numbers[0], numbers[1]), nil
}

func readPrefix(text string) (NetPrefix, error) {
	numbers, err := readNumbers(text, '.', '/')
	if err != nil {
		return NetPrefix{}, err
	}
	p := NetPrefix{Addr: joinAddr(numbers[0], numbers[1]), Len: numbers[2]}
	if !p.ok() {
		return NetPrefix{}, textFault("a prefix that is not ok")
	}
	return p, nil
}

func joinAddr(first int, second int) int {
	return first*netPart + second
}

// readNumbers reads one number more than there are marks, with just these marks between them.
func readNumbers(text string, marks ...rune) ([]int, error) {
	numbers := []int{noNumber}
	for _, c := range text {
		last := len(numbers) - 1
		if last < len(marks) && c == marks[last] && numbers[last] != noNumber {
			numbers = append(numbers, noNumber)
			continue
		}
		longer, err := addFigure(numbers[last], c)
		if err != nil {
			return nil, err
		}
		numbers[last] = longer
	}
	if len(numbers) <= len(marks) || numbers[len(marks)] == noNumber {
		return nil, textFault("too few numbers")
	}
	return numbers, nil
}

// addFigure is a number with one more figure behind it.
func addFigure(number int, c rune) (int, error) {
	if c < '0' || c > '9' {
		return 0, textFault("no figure where one must be")
	}
	figure := int(c - '0')
	if number == noNumber {
		return figure, nil
	}
	if number == 0 {
		return 0, textFault("a nought ahead")
	}
	longer := number*10 + figure
	// Refused at once, so that a long text can't make the number wrap round.
	if longer >= netPart {
		return 0, textFault("too great a number")
	}
	return longer, nil
}
