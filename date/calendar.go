package date

const (
	lastYear     = 9999
	monthsOfYear = 12
	yearOfZero   = 1970 // on its first day the days are 0

	yearsOfCycle = 400 // behind these leap years come again
	daysOfCycle  = 146097
)

// Leap tells whether y is a leap year, 0 to 9999.
func Leap(y int) bool {
	return isYear(y) && y%4 == 0 && (y%100 != 0 || y%400 == 0)
}

// Days tells the days since 1970-01-01, below 0 ahead of it, and false of what is no day of the years 0 to 9999.
func Days(y, m, d int) (int64, bool) {
	if !isYear(y) || m < 1 || m > monthsOfYear {
		return 0, false
	}
	if d < 1 || d > monthDays(y, m) {
		return 0, false
	}
	return int64(daysAhead(y) - daysAhead(yearOfZero) + daysOfYearAhead(y, m) + d - 1), true
}

func isYear(y int) bool {
	return 0 <= y && y <= lastYear
}

// dayOf is back from Days.
func dayOf(days int64) (y, m, d int) {
	day := int(days) + daysAhead(yearOfZero)
	y = yearOf(day)
	rest := day - daysAhead(y)
	for m = 1; rest >= monthDays(y, m); m++ {
		rest -= monthDays(y, m)
	}
	return y, m, rest + 1
}

// yearOf tells the year of a day, days counted from the year 0 on.
func yearOf(day int) int {
	// Years have just so many days in the mean, so this is off by one at most, about a year's end.
	y := day * yearsOfCycle / daysOfCycle
	if day < daysAhead(y) {
		return y - 1
	}
	if day >= daysAhead(y+1) {
		return y + 1
	}
	return y
}

// daysAhead tells how many days the years ahead of y have, from the year 0 on.
func daysAhead(y int) int {
	return 365*y + multiplesBelow(y, 4) - multiplesBelow(y, 100) + multiplesBelow(y, 400)
}

// multiplesBelow tells how many of the numbers 0 to y - 1 are multiples of n.
func multiplesBelow(y, n int) int {
	return (y + n - 1) / n
}

// daysOfYearAhead tells how many days the year's months ahead of m have.
func daysOfYearAhead(y, m int) int {
	days := 0
	for ahead := 1; ahead < m; ahead++ {
		days += monthDays(y, ahead)
	}
	return days
}

func monthDays(y, m int) int {
	switch m {
	case 2:
		if Leap(y) {
			return 29
		}
		return 28
	case 4, 6, 9, 11:
		return 30
	}
	return 31
}
